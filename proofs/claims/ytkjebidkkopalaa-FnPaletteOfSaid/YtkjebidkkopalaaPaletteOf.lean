/- Whatever the code: PaletteOf of the drawn image answers what the model answers, no color comes twice, IndexImage and ColorImage with the palette yield the image again, and the first color is the first pixel. -/
import Derived.Test.YtkjebidkkopalaaRows
import Derived.WalkKit
import Derived.ProofKit
import Derived.OpenShut
import Derived.ShutString
import Derived.ChangeOld
import Derived.Below
import Derived.Test.YtkjebidkkopalaaMgP
import Derived.Test.YtkjebidkkopalaaDrawPal
import Derived.Deep.RegionHeld3
namespace Go.Proofs.Ytkjebidkkopalaa.fnPaletteOf
open Go.ChangeShapes Go.WideShapes Go.ChangeAt Go.RowKit
open Go.ChangeMaps (open_string shut_string)
set_option linter.unusedVariables false

set_option linter.unusedSimpArgs false
set_option maxRecDepth 20000
/-- PaletteOf's contract, its answer in letters. -/
def PCx (f : FuncId) (W H P : Int) (xs : List Int) (xss : List (List Int)) (ok : Bool) : Prop :=
  ∀ (A : Option Addr) (c : Nat) (u : World), Rds .i64 u u.heap.size A xs → xs.length ≤ c → Calls Try.prog f #[.agg #[.int .i64 W, .int .i64 H, .int .i64 P, .slice A xs.length c]] u fun e w' => ∃ (A2 : Option Addr) (c2 : Nat), e = .returned (.tuple #[.slice A2 xss.length c2, .bool ok]) ∧ xss.length ≤ c2 ∧ Rdss w' w'.heap.size A2 xss ∧ Below u.heap.size u w'
theorem pcx_of {f : FuncId} {W H P : Int} {A : Option Addr} {c : Nat} {xs : List Int} {u : World} (h : Calls Try.prog f #[.agg #[.int .i64 W, .int .i64 H, .int .i64 P, .slice A xs.length c]] u (PalM W H P xs u)) : Calls Try.prog f #[.agg #[.int .i64 W, .int .i64 H, .int .i64 P, .slice A xs.length c]] u fun e w' => ∃ (A2 : Option Addr) (c2 : Nat), e = .returned (.tuple #[.slice A2 (palL W H P xs).length c2, .bool (palOk W H P xs)]) ∧ (palL W H P xs).length ≤ c2 ∧ Rdss w' w'.heap.size A2 (palL W H P xs) ∧ Below u.heap.size u w' :=
  h.mono fun e w' ⟨M, A2, c2, he, hc, hM, hG⟩ => ⟨A2, c2, he, hc, LsM.rds hG hM (fun t ht => ht), hG.below⟩
theorem col_of {f : FuncId} {a : Array Value} {W H P : Int} {ys : List Int} {u : World} {ok : Bool} (h : Calls Try.prog f a u (ColR ok W H P ys u)) (hok : ok = true) : Calls Try.prog f a u fun e w' => ∃ (A3 : Option Addr) (c3 : Nat), e = .returned (.tuple #[.agg #[.int .i64 W, .int .i64 H, .int .i64 P, .slice A3 ys.length c3], .bool true]) ∧ ys.length ≤ c3 ∧ Rds .i64 w' w'.heap.size A3 ys ∧ Below u.heap.size u w' := by
  subst hok
  refine h.mono fun e w' ⟨v, he, hO, hB⟩ => ?_
  have hO' : Own w' u.heap.size v ys := hO
  obtain ⟨A3, c3, rfl, hc3⟩ := hO'.slice
  exact ⟨A3, c3, he, hc3, hO'.rds.2, hB⟩
theorem pal_use (W H P : Int) (xs : List Int) (hl : xs.length ≤ 256) : ∃ (xss : List (List Int)) (ok : Bool), Hid (PCx 12 W H P xs xss ok) ∧ Hid (PCx 13 W H P xs xss ok) ∧ tot xss ≤ 200 ∧
    (ok = false ∨ (ok = true ∧ ∃ (w h p : Nat) (ys : List Int), W = w ∧ H = h ∧ P = p ∧ (w ≤ 16 ∧ h ≤ 16 ∧ 1 ≤ p ∧ p ≤ 4 ∧ ys.length ≤ 256) ∧ (1 ≤ xss.length ∧ xss.length ≤ 16) ∧ Hid (∀ i, i < xss.length → (xss.getD i []).length = p) ∧ Hid (∀ i k, k < i → i < xss.length → xss.getD i [] ≠ xss.getD k []) ∧
      Hid (∀ (A : Option Addr) (c : Nat) (A2 : Option Addr) (c2 : Nat) (u : World), Rds .i64 u u.heap.size A xs → xs.length ≤ c → Rdss u u.heap.size A2 xss → Calls Try.prog 16 #[.agg #[.int .i64 (w : Int), .int .i64 (h : Int), .int .i64 (p : Int), .slice A xs.length c], .slice A2 xss.length c2] u fun e w' => ∃ (A3 : Option Addr) (c3 : Nat), e = .returned (.tuple #[.agg #[.int .i64 (w : Int), .int .i64 (h : Int), .int .i64 1, .slice A3 ys.length c3], .bool true]) ∧ ys.length ≤ c3 ∧ Rds .i64 w' w'.heap.size A3 ys ∧ Below u.heap.size u w') ∧
      Hid (∀ (A : Option Addr) (c : Nat) (A2 : Option Addr) (c2 : Nat) (u : World), Rds .i64 u u.heap.size A ys → ys.length ≤ c → Rdss u u.heap.size A2 xss → Calls Try.prog 17 #[.agg #[.int .i64 (w : Int), .int .i64 (h : Int), .int .i64 1, .slice A ys.length c], .slice A2 xss.length c2, .int .i64 (p : Int)] u fun e w' => ∃ (A3 : Option Addr) (c3 : Nat), e = .returned (.tuple #[.agg #[.int .i64 (w : Int), .int .i64 (h : Int), .int .i64 (p : Int), .slice A3 xs.length c3], .bool true]) ∧ xs.length ≤ c3 ∧ Rds .i64 w' w'.heap.size A3 xs ∧ Below u.heap.size u w') ∧
      Hid (∀ (A : Option Addr) (c : Nat) (u : World), Rds .i64 u u.heap.size A xs → xs.length ≤ c → Calls Try.prog 19 #[.agg #[.int .i64 (w : Int), .int .i64 (h : Int), .int .i64 (p : Int), .slice A xs.length c], .int .i64 0, .int .i64 0] u (Shows (xss.getD 0 []) u)))) := by
  refine ⟨palL W H P xs, palOk W H P xs, Lib.hid (fun A c u h1 h2 => pcx_of (i_PaletteOf W H P A c xs u h1 (by omega) h2)), Lib.hid (fun A c u h1 h2 => pcx_of (s_PaletteOf W H P A c xs u h1 (by omega) h2)), ?_, ?_⟩
  · have h := pal_row W H P xs
    have := tot_le h.2
    omega
  · cases hk : palOk W H P xs
    · exact .inl rfl
    · obtain ⟨w, h, p, rfl, rfl, rfl, ⟨_, hw⟩, ⟨_, hh⟩, ⟨hp1, hp⟩, hpl, hln, hrow, hne, hix, hci, hcl, hpx⟩ := pal_law hk
      have ht : tot (acL p xs (w * h)) ≤ 2000000 := by
        have := tot_le (fun i hi => Nat.le_trans (Nat.le_of_eq (hrow i hi)) hp)
        omega
      refine .inr ⟨rfl, w, h, p, ixL w h p xs (acL p xs (w * h)), rfl, rfl, rfl, ⟨hw, hh, hp1, hp, ?_⟩, ?_⟩
      · unfold ixL
        rw [img_len, Nat.mul_one]
        exact Nat.mul_le_mul hw hh
      · have hyl : (ixL w h p xs (acL p xs (w * h))).length ≤ 2000000 := by
          unfold ixL
          rw [img_len, Nat.mul_one]
          have := Nat.mul_le_mul hw hh
          omega
        rw [hpl]
        refine ⟨hln, Lib.hid hrow, Lib.hid hne, Lib.hid (fun A c A2 c2 u h1 h2 h3 => col_of (i_IndexImage w h p A c xs A2 _ c2 (acL p xs (w * h)) u h1 (by omega) h2 h3 rfl ht) hix), Lib.hid (fun A c A2 c2 u h1 h2 h3 => ?_), Lib.hid (fun A c u h1 h2 => ?_)⟩
        · have h4 := col_of (i_ColorImage w h 1 p A c (ixL w h p xs (acL p xs (w * h))) A2 _ c2 (acL p xs (w * h)) u h1 hyl h2 h3 rfl ht) hci
          rw [show ciL (w : Int).toNat (h : Int).toNat (p : Int).toNat (ixL w h p xs (acL p xs (w * h))) (acL p xs (w * h)) = xs from hcl] at h4
          exact h4
        · have h4 := i_PixelAt w h p A c xs 0 0 u h1 (by omega) h2
          rw [hpx] at h4
          exact h4
set_option maxHeartbeats 16000000 in
theorem walk (w : World) (a0 : Option Addr) (cap0 : Nat) (z0 : List Int) (hc0 : z0.length ≤ cap0) (w0 : Rdw .u8 w w.heap.size a0 z0) :
    Calls Try.prog 3 #[.slice a0 z0.length cap0] w fun e w' => e = .returned (.bool true) ∧ Below w.heap.size w w' := by
  have hm := w0.2.1
  unfold maxLen at hm
  by_cases hlen : 1048576 < z0.length
  · go_enter Try.func3, Try.ntmps3
    go_wp2
    go_ret
    exact ⟨rfl, Below.refl _ _⟩
  · have HD := Lib.hid (drawPal_any a0 cap0 z0 w hc0 w0)
    clear w0 hc0
    go_enter Try.func3, Try.ntmps3
    go_wp2_with fail
    refine HD.out.mono ?_
    rintro e w1 ⟨W, H, P, A, c, xs, rfl, hx256, hxc, hr, hb1⟩
    obtain ⟨xss, ok, HI, HS, htot, hor⟩ := pal_use W H P xs hx256
    have HR := Lib.hid hr
    have HB1 := Lib.hid hb1
    obtain ⟨mg, hmg⟩ : ∃ mg, mg = w1.heap.size := ⟨_, rfl⟩
    have S1 := GS.box' (GS.start w1) 25 #[.int .i64 W, .int .i64 H, .int .i64 P, .slice A xs.length c] mg hmg
    have Hmg := Lib.hid hmg
    clear HD hr hb1 hmg
    go_wp2_with fail
    rw [← Hmg.out]
    generalize w1.alloc (.cells #[.int .i64 W, .int .i64 H, .int .i64 P, .slice A xs.length c] 25) = u1 at *
    refine (HI.out A c _ (S1.arg HR.out) hxc).mono ?_
    rintro e u2 ⟨A2, c2, rfl, hc2, hL2, hB2⟩
    have S2 := S1.call hB2
    have HL2 := Lib.hid hL2
    obtain ⟨m0, m1, m2, m3⟩ := S2.b0_4
    clear S1 hL2 hB2 Hmg
    go_wp2_with fail
    clear m0 m1 m2 m3
    refine (HS.out A c _ (S2.arg HR.out) hxc).mono ?_
    rintro e u3 ⟨A3, c3, rfl, hc3, hL3, hB3⟩
    have S3 := S2.call hB3
    have HL2b := Lib.hid ((HL2.out.below hB3).more hB3.size)
    have HL3 := Lib.hid hL3
    clear S2 hL3 hB3 HL2 HI HS
    go_wp2_with fail
    refine (lEqLists_same A2 A3 c2 c3 _ xss u3 rfl HL2b.out HL3.out (by omega)).mono ?_
    rintro e u4 ⟨rfl, m4, rfl⟩
    have S4 := Lib.hid (S3.drewN m4)
    have HL4 : Hid (Rdss (u3.drewN m4) (u3.drewN m4).heap.size A2 xss) := Lib.hid (HL2b.out.keep fun _ _ => rfl)
    have HL5 : Hid (Rdss (u3.drewN m4) (u3.drewN m4).heap.size A3 xss) := Lib.hid (HL3.out.keep fun _ _ => rfl)
    clear S3 HL2b HL3
    generalize u3.drewN m4 = u4 at *
    rcases hor with rfl | ⟨rfl, W, H, P, ys, rfl, rfl, rfl, ⟨hW, hH, hP1, hP4, hy256⟩, ⟨hn1, hn16⟩, HRow, HNeq, HIX, HCI, HPX⟩
    · go_wp2_with fail
      refine (lEqLists_same A2 A3 c2 c3 _ xss u4 rfl HL4.out HL5.out (by omega)).mono ?_
      rintro e u5 ⟨rfl, m5, rfl⟩
      have HB5 := Lib.hid (HB1.out.trans ((S4.out.drewN m5).below.mono HB1.out.size))
      clear S4 HL4 HL5
      go_wp2
      go_ret
      exact ⟨rfl, HB5.out⟩
    · clear HL5
      obtain ⟨n, hn⟩ : ∃ n, n = xss.length := ⟨_, rfl⟩
      have Hn := Lib.hid hn
      obtain ⟨gb, goff, A0, c0, rfl, hgb, hc0, hz, hr0⟩ := HL4.out.at (i := 0) (by omega)
      have HGb := Lib.hid hgb
      rw [← hn] at hn1 hn16 ⊢
      clear hz hr0 hgb hc0 hn
      clear A0 c0
      go_wp2
      go_loopw [8, 9] (fun i k wr => ∃ a : Nat, a ≤ n ∧ i = .int .i64 (a : Int) ∧ Hid (∃ m, wr = u4.drewN m)) (fun i _ _ => n - (intOf i).toNat)
      case atStart => exact ⟨0, Nat.zero_le _, rfl, Lib.hid ⟨0, rfl⟩⟩
      case round =>
        obtain ⟨i, hi, rfl, HW⟩ := hrel
        by_cases hlt : i < n
        · go_wp2
          go_loopw [9] (fun k wr => ∃ b : Nat, b ≤ i ∧ k = .int .i64 (b : Int) ∧ Hid (∃ m, wr = u4.drewN m)) (fun k _ => i - (intOf k).toNat)
          case atStart => exact ⟨0, Nat.zero_le _, rfl, HW⟩
          case round =>
            obtain ⟨k, hk, rfl, HV⟩ := hrel
            clear HW
            by_cases hlt2 : k < i
            · have hil : i < xss.length := by have := Hn.out; omega
              have hkn : k < n := by omega
              have hkl : k < xss.length := by have := Hn.out; omega
              have hkp : ∀ p, wr.drew.cell? p = u4.cell? p := by obtain ⟨m, e⟩ := HV.out; intro p; rw [e]; rfl
              obtain ⟨b1, off1, Ai, ci, ha1, _, hci1, hc1, hr1⟩ := HL4.out.at hil
              obtain ⟨b2, off2, Ak, ck, ha2, _, hck1, hc2', hr2⟩ := HL4.out.at hkl
              injection ha1 with ha1
              injection ha1 with ha1 ha1'
              injection ha2 with ha2
              injection ha2 with ha2 ha2'
              subst ha1 ha1' ha2 ha2'
              have hci := (hkp _).trans hc1
              have hck := (hkp _).trans hc2'
              have li := HRow.out i hil
              have lk := HRow.out k hkl
              have HNe := Lib.hid (HNeq.out i k hlt2 hil)
              have HEQ := Lib.hid (lEqualInts_any Ai Ak ci ck (xss.getD i []) (xss.getD k []) _ _ wr.drew (hr1.keep (w' := wr.drew) fun p _ => hkp p) (hr2.keep (w' := wr.drew) fun p _ => hkp p) (by omega) (by omega))
              rw [li] at hci HEQ
              rw [lk] at hck HEQ
              clear hc1 hc2' hr1 hr2 hci1 hck1 hkp li lk
              go_upto_region 14 with fail
              refine wp_region_held_drew (S := (fun w' => w'.cell? ⟨gb, goff + i, none⟩ = some (.slice Ai P ci) ∧ w'.cell? ⟨gb, goff + k, none⟩ = some (.slice Ak P ck))) (by kernel_rfl) (by exact ⟨hci, hck⟩) (fun hHeld => ?_)
              refine' wpAnyH_take (i := 0) (oi := _) (v := _) ?hi1 (by kernel_rfl) (by kernel_rfl) (by kernel_rfl) ?hq1 (Or.inl ⟨?hw1, ?hy1⟩) (by assumption) ?rest1
              case hi1 => (simp only [List.getElem?_toArray, List.getElem?_cons_succ, List.getElem?_cons_zero]; rfl)
              case hq1 => exact fun _ _ _ h => h
              case hw1 => rfl
              case hy1 => (intro wq hSw; (try dsimp only at hSw); go_simp; (try with_reducible rfl))
              (try simp only [Act.put, List.setIfInBounds_toArray, List.set_cons_zero, List.set_cons_succ])
              refine' wpAnyH_take (i := 1) (oi := _) (v := _) ?hi2 (by kernel_rfl) (by kernel_rfl) (by kernel_rfl) ?hq2 (Or.inl ⟨?hw2, ?hy2⟩) (by assumption) ?rest2
              case hi2 => (simp only [List.getElem?_toArray, List.getElem?_cons_succ, List.getElem?_cons_zero]; rfl)
              case hq2 => exact fun _ _ _ h => h
              case hw2 => rfl
              case hy2 => (intro wq hSw; (try dsimp only at hSw); go_simp; (try with_reducible rfl))
              (try simp only [Act.put, List.setIfInBounds_toArray, List.set_cons_zero, List.set_cons_succ])
              refine' wpAnyH_take (i := 2) (oi := _) (v := _) ?hi3 (by kernel_rfl) (by kernel_rfl) (by kernel_rfl) ?hq3 (Or.inl ⟨?hw3, ?hy3⟩) (by assumption) ?rest3
              case hi3 => (simp only [List.getElem?_toArray, List.getElem?_cons_succ, List.getElem?_cons_zero]; rfl)
              case hq3 => exact fun _ _ _ h => h
              case hw3 => rfl
              case hy3 => (intro wq hSw; (try dsimp only at hSw); go_simp; (try with_reducible rfl))
              (try simp only [Act.put, List.setIfInBounds_toArray, List.set_cons_zero, List.set_cons_succ])
              refine' wpAnyH_take (i := 3) (oi := _) (v := _) ?hi4 (by kernel_rfl) (by kernel_rfl) (by kernel_rfl) ?hq4 (Or.inl ⟨?hw4, ?hy4⟩) (by assumption) ?rest4
              case hi4 => (simp only [List.getElem?_toArray, List.getElem?_cons_succ, List.getElem?_cons_zero]; rfl)
              case hq4 => exact fun _ _ _ h => h
              case hw4 => rfl
              case hy4 => (intro wq hSw; (try dsimp only at hSw); go_simp; (try with_reducible rfl))
              (try simp only [Act.put, List.setIfInBounds_toArray, List.set_cons_zero, List.set_cons_succ])
              refine' wpAnyH_take (i := 4) (oi := _) (v := _) ?hi5 (by kernel_rfl) (by kernel_rfl) (by kernel_rfl) ?hq5 (Or.inl ⟨?hw5, ?hy5⟩) (by assumption) ?rest5
              case hi5 => (simp only [List.getElem?_toArray, List.getElem?_cons_succ, List.getElem?_cons_zero]; rfl)
              case hq5 => exact fun _ _ _ h => h
              case hw5 => rfl
              case hy5 => (intro wq hSw; (try dsimp only at hSw); go_simp; (try with_reducible rfl))
              (try simp only [Act.put, List.setIfInBounds_toArray, List.set_cons_zero, List.set_cons_succ])
              refine' wpAnyH_take (i := 5) (oi := _) (v := _) ?hi6 (by kernel_rfl) (by kernel_rfl) (by kernel_rfl) ?hq6 (Or.inl ⟨?hw6, ?hy6⟩) (by assumption) ?rest6
              case hi6 => (simp only [List.getElem?_toArray, List.getElem?_cons_succ, List.getElem?_cons_zero]; rfl)
              case hq6 => exact fun _ _ _ h => h
              case hw6 => rfl
              case hy6 => (intro wq hSw; (try dsimp only at hSw); go_simp; (try with_reducible rfl))
              (try simp only [Act.put, List.setIfInBounds_toArray, List.set_cons_zero, List.set_cons_succ])
              refine' wpAnyH_take (i := 6) (oi := _) (v := _) ?hi7 (by kernel_rfl) (by kernel_rfl) (by kernel_rfl) ?hq7 (Or.inl ⟨?hw7, ?hy7⟩) (by assumption) ?rest7
              case hi7 => (simp only [List.getElem?_toArray, List.getElem?_cons_succ, List.getElem?_cons_zero]; rfl)
              case hq7 => exact fun _ _ _ h => h
              case hw7 => rfl
              case hy7 => (intro wq hSw; (try dsimp only at hSw); go_simp; (try with_reducible rfl))
              (try simp only [Act.put, List.setIfInBounds_toArray, List.set_cons_zero, List.set_cons_succ])
              refine' wpAnyH_take (i := 7) (oi := _) (v := _) ?hi8 (by kernel_rfl) (by kernel_rfl) (by kernel_rfl) ?hq8 (Or.inl ⟨?hw8, ?hy8⟩) (by assumption) ?rest8
              case hi8 => (simp only [List.getElem?_toArray, List.getElem?_cons_succ, List.getElem?_cons_zero]; rfl)
              case hq8 => exact fun _ _ _ h => h
              case hw8 => rfl
              case hy8 => (intro wq hSw; (try dsimp only at hSw); go_simp; (try with_reducible rfl))
              (try simp only [Act.put, List.setIfInBounds_toArray, List.set_cons_zero, List.set_cons_succ])
              refine wpAnyH_ready (rs := [8]) (by kernel_rfl) (by simp) ?_
              refine' AllReadyH.cons (o := _) ?hi9 (fun K hK => ?rest9) AllReadyH.nil
              case hi9 => (simp only [List.getElem?_toArray, List.getElem?_cons_succ, List.getElem?_cons_zero]; rfl)
              go_simp
              go_at_call 15
              refine HEQ.out.mono ?_
              rintro e u9 ⟨rfl, m9, rfl⟩
              rw [decide_eq_false HNe.out]
              refine hK.out _ _ (by (try dsimp only); exact ⟨hci, hck⟩) (fun hHeld => ?_)
              clear hK K
              (try simp only [Act.put, List.setIfInBounds_toArray, List.set_cons_zero, List.set_cons_succ])
              refine wpAnyH_done (by kernel_rfl) ?_ _
              clear hci hck HEQ HNe
              go_wp2
              go_roundw
              case rel => exact ⟨k + 1, by omega, by go_num, Lib.hid (by obtain ⟨m, e⟩ := HV.out; exact ⟨m + (1 + m9), by rw [e]; exact World.drewN_drewN _ _ _⟩)⟩
              case measure => simp [intOf]; omega
            · go_wp2
              go_roundw
              case rel => exact ⟨i + 1, by omega, by go_num, HV⟩
              case measure => simp [intOf]; omega
        · have HS6 : Hid (GS w1 wr [] [⟨mg, 25, #[.int .i64 (W : Int), .int .i64 (H : Int), .int .i64 (P : Int), .slice A xs.length c]⟩]) := Lib.hid (by obtain ⟨m, e⟩ := HW.out; rw [e]; exact S4.out.drewN m)
          have HL6 : Hid (Rdss wr wr.heap.size (some ⟨gb, goff, none⟩) xss) := Lib.hid (by obtain ⟨m, e⟩ := HW.out; rw [e]; exact HL4.out.keep fun _ _ => rfl)
          have HIXn := HIX
          have HCIn := HCI
          rw [← Hn.out] at HIXn HCIn
          obtain ⟨m0, m1, m2, m3⟩ := HS6.out.b0_4
          clear S4 HL4 HW HIX HCI
          go_wp2_with fail
          clear m0 m1 m2 m3
          refine (HIXn.out A c _ c2 wr (HS6.out.arg HR.out) hxc HL6.out).mono ?_
          rintro e u6 ⟨A6, c6, rfl, hc6, hr6, hB6⟩
          obtain ⟨ug, hug⟩ : ∃ ug, ug = u6.heap.size := ⟨_, rfl⟩
          have S7 := GS.box' (HS6.out.call hB6) 25 #[.int .i64 (W : Int), .int .i64 (H : Int), .int .i64 1, .slice A6 ys.length c6] ug hug
          have hbx : Below u6.heap.size u6 (u6.alloc (.cells #[.int .i64 (W : Int), .int .i64 (H : Int), .int .i64 1, .slice A6 ys.length c6] 25)) := (Below.refl _ _).alloc (Nat.le_refl _) _
          have HL7 := Lib.hid ((((HL6.out.below hB6).more hB6.size).below hbx).more hbx.size)
          have HU7 := Lib.hid ((hr6.below hbx).more hbx.size)
          have Hug := Lib.hid hug
          obtain ⟨v0, v1, v2, v3⟩ := S7.b0_4
          obtain ⟨m0, m1, m2, m3⟩ := S7.b1_4
          rw [hug] at v0 v1 v2 v3
          clear HS6 HL6 hr6 hB6 hbx hug
          go_wp2_with fail
          rw [← Hug.out]
          clear v0 v1 v2 v3 m0 m1 m2 m3 Hug
          generalize u6.alloc (.cells #[.int .i64 (W : Int), .int .i64 (H : Int), .int .i64 1, .slice A6 ys.length c6] 25) = u7 at *
          refine (HCIn.out A6 c6 _ c2 u7 HU7.out hc6 HL7.out).mono ?_
          rintro e u8 ⟨A8, c8, rfl, hc8, hr8, hB8⟩
          obtain ⟨vg, hvg⟩ : ∃ vg, vg = u8.heap.size := ⟨_, rfl⟩
          have S9 := GS.box' (S7.call hB8) 25 #[.int .i64 (W : Int), .int .i64 (H : Int), .int .i64 (P : Int), .slice A8 xs.length c8] vg hvg
          have hbx : Below u8.heap.size u8 (u8.alloc (.cells #[.int .i64 (W : Int), .int .i64 (H : Int), .int .i64 (P : Int), .slice A8 xs.length c8] 25)) := (Below.refl _ _).alloc (Nat.le_refl _) _
          have HL9 := Lib.hid ((((HL7.out.below hB8).more hB8.size).below hbx).more hbx.size)
          have HV9 := Lib.hid ((hr8.below hbx).more hbx.size)
          have Hvg := Lib.hid hvg
          have HC9 := Lib.hid S9
          clear S7 HL7 HU7 hr8 hB8 hbx hvg S9
          go_upto_region 18 with fail
          rw [← Hvg.out]
          generalize u8.alloc (.cells #[.int .i64 (W : Int), .int .i64 (H : Int), .int .i64 (P : Int), .slice A8 xs.length c8] 25) = u9 at *
          clear Hvg
          obtain ⟨gb2, goff2, A0, c0, ha, hgb2, hc0, hz, hr0⟩ := HL9.out.at (i := 0) (by have := Hn.out; omega)
          injection ha with ha
          injection ha with ha ha'
          subst ha ha'
          have l0 := HRow.out 0 (by have := Hn.out; omega)
          have hn0 : 0 < n := by omega
          have HE0 : Hid (∀ (A11 : Option Addr) (c11 : Nat) (u : World), Rds .i64 u u.heap.size A0 (xss.getD 0 []) → Rds .i64 u u.heap.size A11 (xss.getD 0 []) → Calls Try.prog 15 #[.slice A0 P c0, .slice A11 P c11] u fun e w' => e = .returned (.bool true) ∧ ∃ m, w' = u.drewN m) := Lib.hid (fun A11 c11 u h1 h2 => by
            have h3 := lEqualInts_any A0 A11 c0 c11 (xss.getD 0 []) (xss.getD 0 []) _ _ u h1 h2 (by omega) (by omega)
            rw [l0, decide_eq_true rfl] at h3
            exact h3)
          have HPX2 : Hid (∀ (A : Option Addr) (c : Nat) (u : World), Rds .i64 u u.heap.size A xs → xs.length ≤ c → Calls Try.prog 19 #[.agg #[.int .i64 (W : Int), .int .i64 (H : Int), .int .i64 (P : Int), .slice A xs.length c], .int .i64 0, .int .i64 0] u fun e w' => ∃ (A11 : Option Addr) (c11 : Nat), e = .returned (.slice A11 P c11) ∧ P ≤ c11 ∧ Rds .i64 w' w'.heap.size A11 (xss.getD 0 []) ∧ Below u.heap.size u w') := Lib.hid (fun A c u h1 h2 => by
            refine (HPX.out A c u h1 h2).mono ?_
            rintro e w' ⟨A11, c11, rfl, h3, h4, h5⟩
            rw [l0] at h3 ⊢
            exact ⟨A11, c11, rfl, h3, h4, h5⟩)
          rw [l0] at hz
          have HR0 := Lib.hid hr0
          have HGl := Lib.hid hgb2
          have HC := Lib.hid HC9.out.drew
          have HV8 : Hid (Rds .i64 u9.drew u9.drew.heap.size A8 xs) := Lib.hid (HV9.out.keep (w' := u9.drew) fun _ _ => rfl)
          have hz : u9.drew.cell? ⟨gb, goff, none⟩ = some (.slice A0 P c0) := hz
          have HR0 : Hid (Rds .i64 u9.drew u9.drew.heap.size A0 (xss.getD 0 [])) := Lib.hid (hr0.keep (w' := u9.drew) fun _ _ => rfl)
          have HGl : Hid (gb < u9.drew.heap.size) := Lib.hid hgb2
          clear HL9 HV9 HC9 hr0 hgb2 hc0 l0 HPX HRow HNeq
          refine wp_region_held_drew (S := (fun w' => w'.cell? ⟨vg, 0, none⟩ = some (.int .i64 (W : Int)) ∧ w'.cell? ⟨vg, 1, none⟩ = some (.int .i64 (H : Int)) ∧ w'.cell? ⟨vg, 2, none⟩ = some (.int .i64 (P : Int)) ∧ w'.cell? ⟨vg, 3, none⟩ = some (.slice A8 xs.length c8) ∧ w'.cell? ⟨mg, 0, none⟩ = some (.int .i64 (W : Int)) ∧ w'.cell? ⟨mg, 1, none⟩ = some (.int .i64 (H : Int)) ∧ w'.cell? ⟨mg, 2, none⟩ = some (.int .i64 (P : Int)) ∧ w'.cell? ⟨mg, 3, none⟩ = some (.slice A xs.length c) ∧ w'.cell? ⟨gb, goff, none⟩ = some (.slice A0 P c0))) (by kernel_rfl) (by exact ⟨HC.out.b0_4.1, HC.out.b0_4.2.1, HC.out.b0_4.2.2.1, HC.out.b0_4.2.2.2, HC.out.b2_4.1, HC.out.b2_4.2.1, HC.out.b2_4.2.2.1, HC.out.b2_4.2.2.2, hz⟩) (fun hHeld => ?_)
          refine' wpAnyH_take (i := 0) (oi := _) (v := _) ?hi10 (by kernel_rfl) (by kernel_rfl) (by kernel_rfl) ?hq10 (Or.inl ⟨?hw10, ?hy10⟩) (by assumption) ?rest10
          case hi10 => (simp only [List.getElem?_toArray, List.getElem?_cons_succ, List.getElem?_cons_zero]; rfl)
          case hq10 => exact fun _ _ _ h => h
          case hw10 => rfl
          case hy10 => (intro wq hSw; (try dsimp only at hSw); go_simp; (try with_reducible rfl))
          (try simp only [Act.put, List.setIfInBounds_toArray, List.set_cons_zero, List.set_cons_succ])
          refine' wpAnyH_take (i := 1) (oi := _) (v := _) ?hi11 (by kernel_rfl) (by kernel_rfl) (by kernel_rfl) ?hq11 (Or.inl ⟨?hw11, ?hy11⟩) (by assumption) ?rest11
          case hi11 => (simp only [List.getElem?_toArray, List.getElem?_cons_succ, List.getElem?_cons_zero]; rfl)
          case hq11 => exact fun _ _ _ h => h
          case hw11 => rfl
          case hy11 => (intro wq hSw; (try dsimp only at hSw); go_simp; (try with_reducible rfl))
          (try simp only [Act.put, List.setIfInBounds_toArray, List.set_cons_zero, List.set_cons_succ])
          refine' wpAnyH_take (i := 2) (oi := _) (v := _) ?hi12 (by kernel_rfl) (by kernel_rfl) (by kernel_rfl) ?hq12 (Or.inl ⟨?hw12, ?hy12⟩) (by assumption) ?rest12
          case hi12 => (simp only [List.getElem?_toArray, List.getElem?_cons_succ, List.getElem?_cons_zero]; rfl)
          case hq12 => exact fun _ _ _ h => h
          case hw12 => rfl
          case hy12 => (intro wq hSw; (try dsimp only at hSw); go_simp; (try with_reducible rfl))
          (try simp only [Act.put, List.setIfInBounds_toArray, List.set_cons_zero, List.set_cons_succ])
          refine' wpAnyH_take (i := 3) (oi := _) (v := _) ?hi13 (by kernel_rfl) (by kernel_rfl) (by kernel_rfl) ?hq13 (Or.inl ⟨?hw13, ?hy13⟩) (by assumption) ?rest13
          case hi13 => (simp only [List.getElem?_toArray, List.getElem?_cons_succ, List.getElem?_cons_zero]; rfl)
          case hq13 => exact fun _ _ _ h => h
          case hw13 => rfl
          case hy13 => (intro wq hSw; (try dsimp only at hSw); go_simp; (try with_reducible rfl))
          (try simp only [Act.put, List.setIfInBounds_toArray, List.set_cons_zero, List.set_cons_succ])
          refine' wpAnyH_take (i := 4) (oi := _) (v := _) ?hi14 (by kernel_rfl) (by kernel_rfl) (by kernel_rfl) ?hq14 (Or.inl ⟨?hw14, ?hy14⟩) (by assumption) ?rest14
          case hi14 => (simp only [List.getElem?_toArray, List.getElem?_cons_succ, List.getElem?_cons_zero]; rfl)
          case hq14 => exact fun _ _ _ h => h
          case hw14 => rfl
          case hy14 => (intro wq hSw; (try dsimp only at hSw); go_simp; (try with_reducible rfl))
          (try simp only [Act.put, List.setIfInBounds_toArray, List.set_cons_zero, List.set_cons_succ])
          refine' wpAnyH_take (i := 5) (oi := _) (v := _) ?hi15 (by kernel_rfl) (by kernel_rfl) (by kernel_rfl) ?hq15 (Or.inl ⟨?hw15, ?hy15⟩) (by assumption) ?rest15
          case hi15 => (simp only [List.getElem?_toArray, List.getElem?_cons_succ, List.getElem?_cons_zero]; rfl)
          case hq15 => exact fun _ _ _ h => h
          case hw15 => rfl
          case hy15 => (intro wq hSw; (try dsimp only at hSw); go_simp; (try with_reducible rfl))
          (try simp only [Act.put, List.setIfInBounds_toArray, List.set_cons_zero, List.set_cons_succ])
          refine' wpAnyH_take (i := 6) (oi := _) (v := _) ?hi16 (by kernel_rfl) (by kernel_rfl) (by kernel_rfl) ?hq16 (Or.inl ⟨?hw16, ?hy16⟩) (by assumption) ?rest16
          case hi16 => (simp only [List.getElem?_toArray, List.getElem?_cons_succ, List.getElem?_cons_zero]; rfl)
          case hq16 => exact fun _ _ _ h => h
          case hw16 => rfl
          case hy16 => (intro wq hSw; (try dsimp only at hSw); go_simp; (try with_reducible rfl))
          (try simp only [Act.put, List.setIfInBounds_toArray, List.set_cons_zero, List.set_cons_succ])
          refine wpAnyH_ready (rs := [7]) (by kernel_rfl) (by simp) ?_
          refine' AllReadyH.cons (o := _) ?hi17 (fun K hK => ?rest17) AllReadyH.nil
          case hi17 => (simp only [List.getElem?_toArray, List.getElem?_cons_succ, List.getElem?_cons_zero]; rfl)
          go_simp
          go_at_call 18
          refine (lEqIm (W : Int) (H : Int) (P : Int) xs A8 A c8 c _ HV8.out (HC.out.arg HR.out) (by omega)).mono ?_
          rintro e u10 ⟨rfl, hB⟩
          have HZ10 := Lib.hid ((hB.cell (p := ⟨gb, goff, none⟩) HGl.out).trans hz)
          have HGl2 := Lib.hid (Nat.lt_of_lt_of_le HGl.out hB.size)
          have HR0b := Lib.hid ((HR0.out.below hB).more hB.size)
          have HD := Lib.hid (HC.out.call hB)
          clear HC
          have HC := HD
          clear HD
          clear hB
          refine hK.out _ _ (by (try dsimp only); exact ⟨HC.out.b0_4.1, HC.out.b0_4.2.1, HC.out.b0_4.2.2.1, HC.out.b0_4.2.2.2, HC.out.b2_4.1, HC.out.b2_4.2.1, HC.out.b2_4.2.2.1, HC.out.b2_4.2.2.2, HZ10.out⟩) (fun hHeld => ?_)
          clear hK K
          (try simp only [Act.put, List.setIfInBounds_toArray, List.set_cons_zero, List.set_cons_succ])
          refine' wpAnyH_take (i := 8) (oi := _) (v := _) ?hi18 (by kernel_rfl) (by kernel_rfl) (by kernel_rfl) ?hq18 (Or.inl ⟨?hw18, ?hy18⟩) (by assumption) ?rest18
          case hi18 => (simp only [List.getElem?_toArray, List.getElem?_cons_succ, List.getElem?_cons_zero]; rfl)
          case hq18 => exact fun _ _ _ h => h
          case hw18 => rfl
          case hy18 => (intro wq hSw; (try dsimp only at hSw); go_simp; (try with_reducible rfl))
          (try simp only [Act.put, List.setIfInBounds_toArray, List.set_cons_zero, List.set_cons_succ])
          refine' wpAnyH_take (i := 9) (oi := _) (v := _) ?hi19 (by kernel_rfl) (by kernel_rfl) (by kernel_rfl) ?hq19 (Or.inl ⟨?hw19, ?hy19⟩) (by assumption) ?rest19
          case hi19 => (simp only [List.getElem?_toArray, List.getElem?_cons_succ, List.getElem?_cons_zero]; rfl)
          case hq19 => exact fun _ _ _ h => h
          case hw19 => rfl
          case hy19 => (intro wq hSw; (try dsimp only at hSw); go_simp; (try with_reducible rfl))
          (try simp only [Act.put, List.setIfInBounds_toArray, List.set_cons_zero, List.set_cons_succ])
          refine' wpAnyH_take (i := 10) (oi := _) (v := _) ?hi20 (by kernel_rfl) (by kernel_rfl) (by kernel_rfl) ?hq20 (Or.inl ⟨?hw20, ?hy20⟩) (by assumption) ?rest20
          case hi20 => (simp only [List.getElem?_toArray, List.getElem?_cons_succ, List.getElem?_cons_zero]; rfl)
          case hq20 => exact fun _ _ _ h => h
          case hw20 => rfl
          case hy20 => (intro wq hSw; (try dsimp only at hSw); go_simp; (try with_reducible rfl))
          (try simp only [Act.put, List.setIfInBounds_toArray, List.set_cons_zero, List.set_cons_succ])
          refine' wpAnyH_take (i := 11) (oi := _) (v := _) ?hi21 (by kernel_rfl) (by kernel_rfl) (by kernel_rfl) ?hq21 (Or.inl ⟨?hw21, ?hy21⟩) (by assumption) ?rest21
          case hi21 => (simp only [List.getElem?_toArray, List.getElem?_cons_succ, List.getElem?_cons_zero]; rfl)
          case hq21 => exact fun _ _ _ h => h
          case hw21 => rfl
          case hy21 => (intro wq hSw; (try dsimp only at hSw); go_simp; (try with_reducible rfl))
          (try simp only [Act.put, List.setIfInBounds_toArray, List.set_cons_zero, List.set_cons_succ])
          refine' wpAnyH_take (i := 12) (oi := _) (v := _) ?hi22 (by kernel_rfl) (by kernel_rfl) (by kernel_rfl) ?hq22 (Or.inl ⟨?hw22, ?hy22⟩) (by assumption) ?rest22
          case hi22 => (simp only [List.getElem?_toArray, List.getElem?_cons_succ, List.getElem?_cons_zero]; rfl)
          case hq22 => exact fun _ _ _ h => h
          case hw22 => rfl
          case hy22 => (intro wq hSw; (try dsimp only at hSw); go_simp; (try with_reducible rfl))
          (try simp only [Act.put, List.setIfInBounds_toArray, List.set_cons_zero, List.set_cons_succ])
          refine' wpAnyH_take (i := 13) (oi := _) (v := _) ?hi23 (by kernel_rfl) (by kernel_rfl) (by kernel_rfl) ?hq23 (Or.inl ⟨?hw23, ?hy23⟩) (by assumption) ?rest23
          case hi23 => (simp only [List.getElem?_toArray, List.getElem?_cons_succ, List.getElem?_cons_zero]; rfl)
          case hq23 => exact fun _ _ _ h => h
          case hw23 => rfl
          case hy23 => (intro wq hSw; (try dsimp only at hSw); go_simp; (try with_reducible rfl))
          (try simp only [Act.put, List.setIfInBounds_toArray, List.set_cons_zero, List.set_cons_succ])
          refine wpAnyH_ready (rs := [14]) (by kernel_rfl) (by simp) ?_
          refine' AllReadyH.cons (o := _) ?hi24 (fun K hK => ?rest24) AllReadyH.nil
          case hi24 => (simp only [List.getElem?_toArray, List.getElem?_cons_succ, List.getElem?_cons_zero]; rfl)
          go_simp
          go_at_call 19
          refine (HPX2.out A c _ (HC.out.arg HR.out) hxc).mono ?_
          rintro e u11 ⟨A11, c11, rfl, hc11, hr11, hB⟩
          have HZ11 := Lib.hid ((hB.cell (p := ⟨gb, goff, none⟩) HGl2.out).trans HZ10.out)
          have HR0c := Lib.hid ((HR0b.out.below hB).more hB.size)
          have HR11 := Lib.hid hr11
          have HD := Lib.hid (HC.out.call hB)
          clear HC
          have HC := HD
          clear HD
          clear hB hr11
          refine hK.out _ _ (by (try dsimp only); exact ⟨HC.out.b0_4.1, HC.out.b0_4.2.1, HC.out.b0_4.2.2.1, HC.out.b0_4.2.2.2, HC.out.b2_4.1, HC.out.b2_4.2.1, HC.out.b2_4.2.2.1, HC.out.b2_4.2.2.2, HZ11.out⟩) (fun hHeld => ?_)
          clear hK K
          (try simp only [Act.put, List.setIfInBounds_toArray, List.set_cons_zero, List.set_cons_succ])
          refine wpAnyH_ready (rs := [15]) (by kernel_rfl) (by simp) ?_
          refine' AllReadyH.cons (o := _) ?hi25 (fun K hK => ?rest25) AllReadyH.nil
          case hi25 => (simp only [List.getElem?_toArray, List.getElem?_cons_succ, List.getElem?_cons_zero]; rfl)
          go_simp
          go_at_call 15
          refine (HE0.out A11 c11 _ HR0c.out HR11.out).mono ?_
          rintro e u12 ⟨rfl, m12, rfl⟩
          have HD := Lib.hid (HC.out.drewN m12)
          clear HC
          have HC := HD
          clear HD
          refine hK.out _ _ (by (try dsimp only); exact ⟨HC.out.b0_4.1, HC.out.b0_4.2.1, HC.out.b0_4.2.2.1, HC.out.b0_4.2.2.2, HC.out.b2_4.1, HC.out.b2_4.2.1, HC.out.b2_4.2.2.1, HC.out.b2_4.2.2.2, HZ11.out⟩) (fun hHeld => ?_)
          clear hK K
          (try simp only [Act.put, List.setIfInBounds_toArray, List.set_cons_zero, List.set_cons_succ])
          refine' wpAnyH_take (i := 16) (oi := _) (v := _) ?hi26 (by kernel_rfl) (by kernel_rfl) (by kernel_rfl) ?hq26 (Or.inl ⟨?hw26, ?hy26⟩) (by assumption) ?rest26
          case hi26 => (simp only [List.getElem?_toArray, List.getElem?_cons_succ, List.getElem?_cons_zero]; rfl)
          case hq26 => exact fun _ _ _ h => h
          case hw26 => rfl
          case hy26 => (intro wq hSw; (try dsimp only at hSw); go_simp; (try with_reducible rfl))
          (try simp only [Act.put, List.setIfInBounds_toArray, List.set_cons_zero, List.set_cons_succ])
          refine' wpAnyH_take (i := 17) (oi := _) (v := _) ?hi27 (by kernel_rfl) (by kernel_rfl) (by kernel_rfl) ?hq27 (Or.inl ⟨?hw27, ?hy27⟩) (by assumption) ?rest27
          case hi27 => (simp only [List.getElem?_toArray, List.getElem?_cons_succ, List.getElem?_cons_zero]; rfl)
          case hq27 => exact fun _ _ _ h => h
          case hw27 => rfl
          case hy27 => (intro wq hSw; (try dsimp only at hSw); go_simp; (try with_reducible rfl))
          (try simp only [Act.put, List.setIfInBounds_toArray, List.set_cons_zero, List.set_cons_succ])
          refine wpAnyH_done (by kernel_rfl) ?_ _
          have HB7 := Lib.hid (HB1.out.trans (HC.out.below.mono HB1.out.size))
          clear HC
          go_wp2
          go_ret
          exact ⟨rfl, HB7.out⟩

/-! ### From the walk to the statement. -/
theorem own : ownKnob Try.prog.godebug = none := by kernel_rfl
theorem laidOut : laidOutB Try.prog = true := by kernel_rfl
set_option maxRecDepth 100000 in
theorem lifted (os : Os) (started : os.Started) (H : Type) (enc : TypeId × Value → H) :
    ReturnsInHanded {} Try.checked os 3 .any (Rows.fnPaletteOfSpec.pre6 enc Try.prog Try.f3 Rows.fnPaletteOfRow.domain false) (Rows.fnPaletteOfSpec.post enc Try.prog Try.f3 false true false false) := by
  refine returnsInHanded_of_change (C := Try.checked) own started (by kernel_rfl) Try.func3
    (ChangeSpec.witness6 (enc := enc) (C := Try.checked) false ⟨#[], #[.slice none 0 0], []⟩ 8 (by kernel_rfl) (by kernel_rfl) (by kernel_rfl) (by kernel_rfl)) ?_
  intro W base args ds gs before hval0 hW hcnd _
  have hval : ∀ (j : Nat) t v, Try.f3.params[j]? = some t → args[j]? = some v → Value.okWide Try.prog W .any base t v := hval0
  have hW' := hW
  obtain ⟨p, q, hA0, hV, rfl, hfz, hnd⟩ := hW
  have hA : DataW.TrodAll enc Try.prog W 0 (fun _ => true) true Try.f3.params.toList args.toList ds p := hA0
  rw [Try.params3] at hA hval
  obtain ⟨v0, vs0, d0, ds0, p0, q0, hargs, rfl, rfl, h0, r0⟩ := trodAll_cons hA
  obtain ⟨rfl, rfl, rfl⟩ := trodAll_nil r0
  obtain rfl : args = #[v0] := by cases args; simp_all
  obtain ⟨rfl, rfl⟩ := trodVars_none hV
  obtain ⟨a0, len0, cap0, rfl⟩ := okWide_slice Try.underlying22 (hval 0 22 v0 rfl rfl)
  have k0 := h0
  have lt0 : ∀ x ∈ p0, x.block < W.heap.size := by obtain ⟨m, hm⟩ := k0; exact DataW.trod_lt m _ _ _ hm
  obtain ⟨z0, hl0, hc0, w0⟩ : ∃ zs : List Int, len0 = zs.length ∧ zs.length ≤ cap0 ∧ Rdw .u8 W W.heap.size a0 zs := by
    obtain ⟨fuel, hf⟩ := h0
    rcases open_ints Try.underlying22 Try.underlying5 (by kernel_rfl) hf with ⟨hcs, _⟩ | ⟨x, l, c, zs, hcs, _, hl, hm, hz, _, hcell, hwz⟩
    · simp [Value.cells] at hcs
      obtain ⟨rfl, rfl, rfl⟩ := hcs
      exact ⟨[], rfl, Nat.le_refl _, Rdw.nil⟩
    · simp [Value.cells] at hcs
      obtain ⟨rfl, rfl, rfl⟩ := hcs
      exact ⟨zs.take len0, by simp at hz ⊢; omega, by simp at hz ⊢; omega, Rdw.of_row hl hm (by simpa using hz) hcell hwz⟩
  subst hl0
  clear hA0 hval0
  refine (walk W a0 cap0 z0 hc0 w0).mono fun e W' ⟨he, bel⟩ => ?_
  subst he
  exact ⟨_, rfl, _, _, _, [], _, [], hW', trodAll_mk1 (shut_bool Try.underlying4 _), (trodAll_cons_mk (Below.trod laidOut (by kernel_rfl) (of_decide_eq_true (by kernel_rfl)) k0 bel lt0) trodAll_mk0), rfl, bel.frame _, fun h => by cases h⟩

theorem over : Rows.fnPaletteOfRow.holds Try.pinned (OpenSpec.ofChange Rows.fnPaletteOfSpec) :=
  OpenClaim.holds_of_wide 3 Try.f3 rfl rfl rfl rfl rfl rfl rfl ⟨rfl, rfl, rfl, rfl, rfl⟩ rfl rfl rfl rfl rfl (by kernel_rfl) Try.func3 (by kernel_rfl)
    (of_decide_eq_true (by kernel_rfl)) (by unfold Func.isWrapper; first | (rw [if_pos (by decide +kernel)]; kernel_rfl) | (rw [if_neg (by decide +kernel)]; exact ⟨rfl, rfl⟩))
    (fun os started H enc _ => lifted os started H enc)

theorem proved : Rows.FnPaletteOfSaid := over
end Go.Proofs.Ytkjebidkkopalaa.fnPaletteOf
