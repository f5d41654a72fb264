/- Whatever the code: the best filter of drawn rows is what the model tells; it costs the least, and every kind before it costs more. -/
import Derived.Test.YtdhdemokioejpaaRows
import Derived.WalkKit
import Derived.ProofKit
import Derived.OpenShut
import Derived.ShutString
import Derived.ChangeOld
import Derived.Below
import Derived.Test.YtdhdemokioejpaaFilterG
import Derived.Test.YtdhdemokioejpaaDrawBst
import Derived.Deep.QuietTactic
import Derived.BigQuiet
namespace Go.Proofs.Ytdhdemokioejpaa.fnBestFilter
open Go.ChangeShapes Go.WideShapes Go.ChangeAt Go.RowKit
open Go.ChangeMaps (open_string shut_string)
set_option linter.unusedVariables false

theorem rds_call {u u' : World} {A : Option Addr} {xs : List Int} (h : Rds .i64 u u.heap.size A xs) (hb : Below u.heap.size u u') : Rds .i64 u' u'.heap.size A xs := (h.below hb).more hb.size
/-- The best kind costs the least, and all before it cost more. -/
theorem bst_min (xs bs : List Int) (S : Nat) : ∀ j i : Nat, i ≤ j → cst xs bs S (bst xs bs S j) ≤ cst xs bs S (i : Int) ∧ ((i : Int) < bst xs bs S j → cst xs bs S (bst xs bs S j) < cst xs bs S (i : Int))
  | 0, i, h => by
    obtain rfl : i = 0 := by omega
    exact ⟨Int.le_refl _, fun h => by simp [bst] at h⟩
  | j + 1, i, h => by
    have hr := bst_range xs bs S j
    by_cases hc : cst xs bs S ((j : Int) + 1) < cst xs bs S (bst xs bs S j)
    · rw [bst_yes hc]
      by_cases e : i = j + 1
      · subst e
        push_cast
        exact ⟨Int.le_refl _, fun h => absurd h (Int.lt_irrefl _)⟩
      · have ih := (bst_min xs bs S j i (by omega)).1
        exact ⟨by omega, fun _ => by omega⟩
    · rw [bst_no hc]
      by_cases e : i = j + 1
      · subst e
        push_cast
        exact ⟨by omega, fun h => by omega⟩
      · exact bst_min xs bs S j i (by omega)
def costs (xs bs : List Int) (S : Nat) : Nat → List Int
  | 0 => []
  | k + 1 => costs xs bs S k ++ [cst xs bs S (k : Int)]
theorem costs_len (xs bs : List Int) (S : Nat) : ∀ k, (costs xs bs S k).length = k
  | 0 => rfl
  | k + 1 => by unfold costs; rw [List.length_append, costs_len xs bs S k]; rfl
theorem costs_get (xs bs : List Int) (S : Nat) : ∀ n k, k < n → (costs xs bs S n).getD k 0 = cst xs bs S (k : Int)
  | 0, k, h => by omega
  | n + 1, k, h => by
    have hl := costs_len xs bs S n
    unfold costs
    by_cases e : k = n
    · subst e
      rw [List.getD_eq_getElem?_getD, List.getElem?_append_right (by omega), hl, Nat.sub_self]; rfl
    · rw [List.getD_eq_getElem?_getD, List.getElem?_append_left (by omega), ← List.getD_eq_getElem?_getD]
      exact costs_get xs bs S n k (by omega)
set_option maxHeartbeats 32000000 in
theorem walk (w : World) (a0 : Option Addr) (cap0 : Nat) (z0 : List Int) (hc0 : z0.length ≤ cap0) (w0 : Rdw .u8 w w.heap.size a0 z0) :
    Calls Try.prog 3 #[.slice a0 z0.length cap0] w fun e w' => e = .returned (.bool true) ∧ Below w.heap.size w w' := by
  have hm := w0.2.1
  unfold maxLen at hm
  by_cases hlen : 1048576 < z0.length
  · go_enter Try.func3, Try.ntmps3
    go_wp2
    go_ret
    exact ⟨rfl, Below.refl _ _⟩
  · have HD := Lib.hid (drawBst_any a0 cap0 z0 w hc0 w0)
    clear w0 hc0
    go_enter Try.func3, Try.ntmps3
    go_wp2_with fail
    refine HD.out.mono ?_
    rintro e w1 ⟨st, A1, A2, c1, c2, xs, bs, rfl, hx13, hb12, hr1, hr2, hb1⟩
    obtain ⟨K, hK⟩ : ∃ k, k = bfl xs bs st := ⟨_, rfl⟩
    have HI : Hid (∀ u, Rds .i64 u u.heap.size A1 xs → Rds .i64 u u.heap.size A2 bs → Calls Try.prog 8 #[.slice A1 xs.length c1, .slice A2 bs.length c2, .int .i64 st] u fun e w' => e = .returned (.int .i64 K) ∧ Below u.heap.size u w') := Lib.hid (fun u h h' => by rw [hK]; exact i_BestFilter A1 A2 c1 c2 xs bs st u h h' (by omega) (by omega))
    have HS : Hid (∀ u, Rds .i64 u u.heap.size A1 xs → Rds .i64 u u.heap.size A2 bs → Calls Try.prog 9 #[.slice A1 xs.length c1, .slice A2 bs.length c2, .int .i64 st] u fun e w' => e = .returned (.int .i64 K) ∧ Below u.heap.size u w') := Lib.hid (fun u h h' => by rw [hK]; exact s_BestFilter A1 A2 c1 c2 xs bs st u h h' (by omega) (by omega))
    have HF : Hid (∀ (k : Int) u, Rds .i64 u u.heap.size A1 xs → Rds .i64 u u.heap.size A2 bs → Calls Try.prog 10 #[.int .i64 k, .slice A1 xs.length c1, .slice A2 bs.length c2, .int .i64 st] u (Made (fil k xs bs st) u)) := Lib.hid (fun k u h h' => i_FilterRow k A1 A2 c1 c2 xs bs st u h h' (by omega) (by omega))
    have HR1 := Lib.hid hr1
    have HQ1 := Lib.hid hr2
    have HB1 := Lib.hid hb1
    have HK := Lib.hid hK
    clear hr1 hr2 hb1 hK
    go_wp2_with fail
    refine (HI.out w1 HR1.out HQ1.out).mono ?_
    rintro e w2 ⟨rfl, hb⟩
    have HR2 := Lib.hid (rds_call HR1.out hb)
    have HQ2 := Lib.hid (rds_call HQ1.out hb)
    have HB2 := Lib.hid (HB1.out.trans (hb.mono HB1.out.size))
    clear hb HR1 HQ1 HB1 HI
    go_wp2_with fail
    refine (HS.out w2 HR2.out HQ2.out).mono ?_
    rintro e w3 ⟨rfl, hb⟩
    have HR3 := Lib.hid (rds_call HR2.out hb)
    have HQ3 := Lib.hid (rds_call HQ2.out hb)
    have HB3 := Lib.hid (HB2.out.trans (hb.mono HB2.out.size))
    clear hb HR2 HQ2 HB2
    by_cases hK0 : K < 0
    · go_wp2_with fail
      refine (HS.out w3 HR3.out HQ3.out).mono ?_
      rintro e w4 ⟨rfl, hb⟩
      have HB4 := Lib.hid (HB3.out.trans (hb.mono HB3.out.size))
      clear hb HR3 HQ3 HB3
      go_wp2
      go_ret
      exact ⟨by simp, HB4.out⟩
    · have hok : rok xs bs st = true := by
        cases h : rok xs bs st
        · have e := HK.out
          unfold bfl at e
          rw [h, if_neg (by simp)] at e
          omega
        · rfl
      obtain ⟨S, rfl, hS1, hS4, h64, hlen, hbx, hbb⟩ := rok_parts hok
      have hKb : K = bst xs bs S 4 := by rw [HK.out, bfl_yes hok]
      have hr4 := bst_range xs bs S 4
      rw [← hKb] at hr4
      have HMin : Hid (∀ i : Nat, i ≤ 4 → cst xs bs S K ≤ cst xs bs S (i : Int) ∧ ((i : Int) < K → cst xs bs S K < cst xs bs S (i : Int))) := Lib.hid (fun i hi => by rw [hKb]; exact bst_min xs bs S 4 i hi)
      have HFil : Hid (∀ k : Nat, k ≤ 4 → fil (k : Int) xs bs (S : Int) = flt (k : Int) xs bs S xs.length) := Lib.hid (fun k hk => fil_yes (by omega) (by omega) hok)
      have HCst : Hid (∀ k : Int, 0 ≤ cst xs bs S k ∧ cst xs bs S k ≤ 100000) := Lib.hid (fun k => cst_bd bs S k h64)
      have HFB : Hid (∀ k : Int, Byt (flt k xs bs S xs.length) ∧ (flt k xs bs S xs.length).length = xs.length ∧ cst xs bs S k = fcost (flt k xs bs S xs.length)) := Lib.hid (fun k => ⟨flt_byt k xs bs S xs.length, flt_len k xs bs S xs.length, rfl⟩)
      have HCL : Hid (∀ k, (costs xs bs S k).length = k) := Lib.hid (costs_len xs bs S)
      have HCG : Hid (∀ n k, k < n → (costs xs bs S n).getD k 0 = cst xs bs S (k : Int)) := Lib.hid (costs_get xs bs S)
      have HO0 := Lib.hid (own_none w3)
      have HB30 : Hid (Below w3.heap.size w3 (w3.alloc (.cells #[] 3))) := Lib.hid ((Below.refl _ _).alloc (Nat.le_refl _) _)
      clear hok hKb hbx hbb HK HS h64 hlen
      go_wp2
      go_loopw [7, 8] (fun v i wr => ∃ k : Nat, k ≤ 5 ∧ i = .int .i64 (k : Int) ∧ Hid (Own wr w3.heap.size v (costs xs bs S k) ∧ Below w3.heap.size w3 wr)) (fun _ i _ => (5 - intOf i).toNat)
      case atStart => exact ⟨0, by omega, rfl, Lib.hid ⟨HO0.out, HB30.out⟩⟩
      case round =>
        clear HO0 HB30
        obtain ⟨k0, hk0, rfl, hI⟩ := hrel
        rename World => wy
        obtain ⟨A5, c5, rfl, hc5⟩ := hI.out.1.slice
        have HO := Lib.hid hI.out.1
        have HB := Lib.hid hI.out.2
        clear hI
        have hcl := HCL.out k0
        by_cases hk5 : k0 < 5
        · have hkI : (k0 : Int) ≤ 4 := by omega
          have hRx : Rds .i64 wy wy.heap.size A1 xs := (HR3.out.below HB.out).more HB.out.size
          have hRb : Rds .i64 wy wy.heap.size A2 bs := (HQ3.out.below HB.out).more HB.out.size
          have HRx := Lib.hid hRx
          have HRb := Lib.hid hRb
          clear hRx hRb
          go_wp2_with fail
          refine (HF.out (k0 : Int) wy HRx.out HRb.out).mono ?_
          rw [HFil.out k0 (by omega)]
          rintro e w5 ⟨v5, rfl, hO5, hb⟩
          obtain ⟨hfb, hfl, hfc⟩ := HFB.out (k0 : Int)
          have hcb := HCst.out (k0 : Int)
          have HFC := Lib.hid hfc
          have HFBy := Lib.hid hfb
          obtain ⟨D, d, rfl, hd⟩ := hO5.slice
          have HD5 := Lib.hid hO5.rds.2
          have HO5 : Hid (Own w5 w3.heap.size (.slice A5 (costs xs bs S k0).length c5) (costs xs bs S k0)) := Lib.hid (HO.out.below hb (Nat.le_refl _))
          have HB5 : Hid (Below w3.heap.size w3 w5) := Lib.hid (HB.out.trans (hb.mono HB.out.size))
          clear hfb hfc hO5 hb HO HB HRx HRb
          generalize flt (k0 : Int) xs bs S xs.length = fl at *
          go_wp2
          go_loopw [10, 11] (fun s i wr => ∃ k : Nat, k ≤ fl.length ∧ i = .int .i64 (k : Int) ∧ s = .int .i64 (fcost (fl.take k)) ∧ Hid (Own wr w3.heap.size (.slice A5 (costs xs bs S k0).length c5) (costs xs bs S k0) ∧ Below w3.heap.size w3 wr ∧ Rds .i64 wr wr.heap.size D fl)) (fun _ i _ => fl.length - (intOf i).toNat)
          case atStart => exact ⟨0, Nat.zero_le _, rfl, rfl, Lib.hid ⟨HO5.out, HB5.out, HD5.out⟩⟩
          case round =>
            clear HO5 HB5 HD5
            obtain ⟨k, hk, rfl, rfl, hN⟩ := hrel
            rename World => wx
            have r1 := fcost_bd HFBy.out k
            by_cases hlt : k < fl.length
            · obtain ⟨b, off, rfl, _, hc⟩ := hN.out.2.2.cells_ hlt
              have h1 := hc k hlt
              have hr := HFBy.out k
              have HX := Lib.hid (fcost_take fl k hlt)
              have HN : ∀ q, Hid (Own (wx.drewN q) w3.heap.size (.slice A5 (costs xs bs S k0).length c5) (costs xs bs S k0) ∧ Below w3.heap.size w3 (wx.drewN q) ∧ Rds .i64 (wx.drewN q) (wx.drewN q).heap.size (some ⟨b, off, none⟩) fl) := fun q => Lib.hid ⟨hN.out.1, ⟨hN.out.2.1.os, hN.out.2.1.tape, hN.out.2.1.output, hN.out.2.1.size, hN.out.2.1.block⟩, hN.out.2.2⟩
              clear hc
              generalize fl.getD k 0 = n at *
              generalize fcost (fl.take k) = x at *
              by_cases hm : n ≤ 256 - n
              · rw [show min n (256 - n) = n by omega] at HX
                go_wp2
                go_quiet (fail)
                go_wp2
                go_roundw
                case rel => exact ⟨k + 1, by omega, by go_num, by rw [HX.out] <;> go_num, HN _⟩
                case measure => simp [intOf]; omega
              · rw [show min n (256 - n) = 256 - n by omega] at HX
                go_wp2
                go_quiet (fail)
                go_wp2
                go_roundw
                case rel => exact ⟨k + 1, by omega, by go_num, by rw [HX.out] <;> go_num, HN _⟩
                case measure => simp [intOf]; omega
            · have HE : Hid (fcost (fl.take k) = cst xs bs S (k0 : Int)) := Lib.hid (by rw [List.take_of_length_le (by omega), HFC.out])
              have HO6 := Lib.hid (hN.out.1.alloc (.cells #[.int .i64 (cst xs bs S (k0 : Int))] 3))
              have HB6 := Lib.hid (hN.out.2.1.alloc hN.out.2.1.size (.cells #[.int .i64 (cst xs bs S (k0 : Int))] 3))
              have HQ6 := Lib.hid (rds_one wx (cst xs bs S (k0 : Int)))
              have Hz6 := Lib.hid hN.out.2.1.size
              clear hN
              rw [HE.out]
              go_wp2_with (at_builtin; refine wpList_app rfl (.tmp 70) (.tmp 72) rfl w3.heap.size (.slice A5 (costs xs bs S k0).length c5) (costs xs bs S k0) (by simp [Act.eval, hcl]) HO6.out (some ⟨wx.heap.size, 0, none⟩) 1 1 _ [cst xs bs S (k0 : Int)] rfl rfl HQ6.out (by simp; omega) (by have := Hz6.out; simp; omega) ?_; intro v7 w7 hO7 hG7)
              have HN7 : Hid (Own w7 w3.heap.size v7 (costs xs bs S (k0 + 1)) ∧ Below w3.heap.size w3 w7) := Lib.hid ⟨hO7, HB6.out.grown hG7 HB6.out.size (fun j hj => (HO6.out.lt j hj).1)⟩
              clear hO7 hG7 HO6 HB6 HQ6 Hz6
              go_wp2
              go_roundw
              case rel => exact ⟨k0 + 1, by omega, by go_num, HN7⟩
              case measure => simp [intOf]; omega
        · have hkE : k0 = 5 := by omega
          have hR := HO.out.rds.2
          have HB9 := Lib.hid (HB3.out.trans (HB.out.mono HB3.out.size))
          have HR9 := Lib.hid hR
          clear hR HO HB HR3 HQ3 HB3
          have HG5 : Hid (∀ k : Nat, k < 5 → (costs xs bs S k0).getD k 0 = cst xs bs S (k : Int)) := Lib.hid (fun k hk => HCG.out k0 k (by omega))
          clear HCL HCG HFB HFil HF
          generalize costs xs bs S k0 = C at *
          have hcl : C.length = 5 := by omega
          rw [hcl]
          have hkI : ¬ (k0 : Int) ≤ 4 := by omega
          clear hkE
          go_wp2
          go_loopw [12] (fun i wr => ∃ k : Nat, k ≤ 5 ∧ i = .int .i64 (k : Int) ∧ Hid (Rds .i64 wr wr.heap.size A5 C ∧ Below w.heap.size w wr)) (fun i _ => (5 - intOf i).toNat)
          case atStart => exact ⟨0, by omega, rfl, Lib.hid ⟨HR9.out, HB9.out⟩⟩
          case round =>
            clear HR9 HB9
            obtain ⟨k, hk, rfl, hI⟩ := hrel
            rename World => wx
            by_cases hlt : k < 5
            · obtain ⟨b, off, rfl, _, hc⟩ := hI.out.1.cells_ (j := k) (by omega)
              obtain ⟨p, hp⟩ : ∃ p : Nat, K = p := ⟨K.toNat, by omega⟩
              have g1 := hc k (by omega)
              have g2 := hc p (by omega)
              rw [HG5.out k hlt] at g1
              rw [HG5.out p (by omega), ← hp] at g2
              obtain ⟨m1, m2⟩ := HMin.out k (by omega)
              have HN : ∀ q, Hid (Rds .i64 (wx.drewN q) (wx.drewN q).heap.size (some ⟨b, off, none⟩) C ∧ Below w.heap.size w (wx.drewN q)) := fun q => Lib.hid ⟨hI.out.1, ⟨hI.out.2.os, hI.out.2.tape, hI.out.2.output, hI.out.2.size, hI.out.2.block⟩⟩
              have hkI : (k : Int) < 5 := by omega
              have hK5 : ¬ (5 : Int) ≤ K := by omega
              clear hc hI HMin HG5 HCst
              generalize cst xs bs S K = cb at *
              generalize cst xs bs S (k : Int) = ck at *
              have hl1 : decide (ck < cb) = false := decide_eq_false (by omega)
              subst hp
              by_cases he : ck = cb
              · have hl3 : decide ((k : Int) < (p : Int)) = false := decide_eq_false (by omega)
                have hl4 : decide (k < p) = false := decide_eq_false (by omega)
                subst he
                clear m1 m2 hl1
                go_wp2
                go_quiet (fail)
                go_wp2
                go_roundw
                case rel => exact ⟨k + 1, by omega, by go_num, HN _⟩
                case measure => simp [intOf]; omega
              · have hl2 : (ck == cb) = false := beq_eq_false_iff_ne.2 he
                clear m1 m2
                go_wp2
                go_quiet (fail)
                go_wp2
                go_roundw
                case rel => exact ⟨k + 1, by omega, by go_num, HN _⟩
                case measure => simp [intOf]; omega
            · have hkI : ¬ (k : Int) < 5 := by omega
              have HB := Lib.hid hI.out.2
              clear hI
              go_wp2
              go_ret
              exact ⟨rfl, HB.out⟩

/-! ### From the walk to the statement. -/
theorem own : ownKnob Try.prog.godebug = none := by kernel_rfl
theorem laidOut : laidOutB Try.prog = true := by kernel_rfl
set_option maxRecDepth 100000 in
theorem lifted (os : Os) (started : os.Started) (H : Type) (enc : TypeId × Value → H) :
    ReturnsInHanded {} Try.checked os 3 .any (Rows.fnBestFilterSpec.pre6 enc Try.prog Try.f3 Rows.fnBestFilterRow.domain false) (Rows.fnBestFilterSpec.post enc Try.prog Try.f3 false true false false) := by
  refine returnsInHanded_of_change (C := Try.checked) own started (by kernel_rfl) Try.func3
    (ChangeSpec.witness6 (enc := enc) (C := Try.checked) false ⟨#[], #[.slice none 0 0], []⟩ 8 (by kernel_rfl) (by kernel_rfl) (by kernel_rfl) (by kernel_rfl)) ?_
  intro W base args ds gs before hval0 hW hcnd _
  have hval : ∀ (j : Nat) t v, Try.f3.params[j]? = some t → args[j]? = some v → Value.okWide Try.prog W .any base t v := hval0
  have hW' := hW
  obtain ⟨p, q, hA0, hV, rfl, hfz, hnd⟩ := hW
  have hA : DataW.TrodAll enc Try.prog W 0 (fun _ => true) true Try.f3.params.toList args.toList ds p := hA0
  rw [Try.params3] at hA hval
  obtain ⟨v0, vs0, d0, ds0, p0, q0, hargs, rfl, rfl, h0, r0⟩ := trodAll_cons hA
  obtain ⟨rfl, rfl, rfl⟩ := trodAll_nil r0
  obtain rfl : args = #[v0] := by cases args; simp_all
  obtain ⟨rfl, rfl⟩ := trodVars_none hV
  obtain ⟨a0, len0, cap0, rfl⟩ := okWide_slice Try.underlying22 (hval 0 22 v0 rfl rfl)
  have k0 := h0
  have lt0 : ∀ x ∈ p0, x.block < W.heap.size := by obtain ⟨m, hm⟩ := k0; exact DataW.trod_lt m _ _ _ hm
  obtain ⟨z0, hl0, hc0, w0⟩ : ∃ zs : List Int, len0 = zs.length ∧ zs.length ≤ cap0 ∧ Rdw .u8 W W.heap.size a0 zs := by
    obtain ⟨fuel, hf⟩ := h0
    rcases open_ints Try.underlying22 Try.underlying5 (by kernel_rfl) hf with ⟨hcs, _⟩ | ⟨x, l, c, zs, hcs, _, hl, hm, hz, _, hcell, hwz⟩
    · simp [Value.cells] at hcs
      obtain ⟨rfl, rfl, rfl⟩ := hcs
      exact ⟨[], rfl, Nat.le_refl _, Rdw.nil⟩
    · simp [Value.cells] at hcs
      obtain ⟨rfl, rfl, rfl⟩ := hcs
      exact ⟨zs.take len0, by simp at hz ⊢; omega, by simp at hz ⊢; omega, Rdw.of_row hl hm (by simpa using hz) hcell hwz⟩
  subst hl0
  clear hA0 hval0
  refine (walk W a0 cap0 z0 hc0 w0).mono fun e W' ⟨he, bel⟩ => ?_
  subst he
  exact ⟨_, rfl, _, _, _, [], _, [], hW', trodAll_mk1 (shut_bool Try.underlying4 _), (trodAll_cons_mk (Below.trod laidOut (by kernel_rfl) (of_decide_eq_true (by kernel_rfl)) k0 bel lt0) trodAll_mk0), rfl, bel.frame _, fun h => by cases h⟩

theorem over : Rows.fnBestFilterRow.holds Try.pinned (OpenSpec.ofChange Rows.fnBestFilterSpec) :=
  OpenClaim.holds_of_wide 3 Try.f3 rfl rfl rfl rfl rfl rfl rfl ⟨rfl, rfl, rfl, rfl, rfl⟩ rfl rfl rfl rfl rfl (by kernel_rfl) Try.func3 (by kernel_rfl)
    (of_decide_eq_true (by kernel_rfl)) (by unfold Func.isWrapper; first | (rw [if_pos (by decide +kernel)]; kernel_rfl) | (rw [if_neg (by decide +kernel)]; exact ⟨rfl, rfl⟩))
    (fun os started H enc _ => lifted os started H enc)

theorem proved : Rows.FnBestFilterSaid := over
end Go.Proofs.Ytdhdemokioejpaa.fnBestFilter
