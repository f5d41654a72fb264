/- Whatever the code: CountImage of two drawn images is what the model tells; it is 0 exactly where FindImage has a gap above 0, and an image is once in itself. -/
import Derived.Test.YtfjcbdpepbcjcaaRows
import Derived.WalkKit
import Derived.ProofKit
import Derived.OpenShut
import Derived.ShutString
import Derived.ChangeOld
import Derived.Below
import Derived.Test.YtfjcbdpepbcjcaaFndJ
import Derived.Test.YtfjcbdpepbcjcaaFndI
import Derived.Test.YtfjcbdpepbcjcaaFndL
import Derived.Test.YtfjcbdpepbcjcaaDrawFnd
namespace Go.Proofs.Ytfjcbdpepbcjcaa.fnCountImage
open Go.ChangeShapes Go.WideShapes Go.ChangeAt Go.RowKit
open Go.ChangeMaps (open_string shut_string)
set_option linter.unusedVariables false

/-- Two images that are read while calls go by, and their boxes. -/
structure TwoF (w : World) (g h : Nat) (ca cb : Array Value) (A1 A2 : Option Addr) (xs ys : List Int) (u : World) : Prop where
  ra : Rds .i64 u u.heap.size A1 xs
  rb : Rds .i64 u u.heap.size A2 ys
  xa : Bx u g 30 ca
  xb : Bx u h 30 cb
  be : Below w.heap.size w u
theorem bx_call {u u' : World} {b : Nat} {T : TypeId} {cs : Array Value} (h : Bx u b T cs) (hb : Below u.heap.size u u') : Bx u' b T cs := (hb.block b h.lt).trans h
theorem rds_call {u u' : World} {A : Option Addr} {xs : List Int} (h : Rds .i64 u u.heap.size A xs) (hb : Below u.heap.size u u') : Rds .i64 u' u'.heap.size A xs := (h.below hb).more hb.size
theorem rds_alloc {u : World} {A : Option Addr} {xs : List Int} (h : Rds .i64 u u.heap.size A xs) (o : Obj) : Rds .i64 (u.alloc o) (u.alloc o).heap.size A xs := (h.alloc (Nat.le_refl _) o).more (by simp)
theorem TwoF.call {w u u' : World} {g h : Nat} {ca cb : Array Value} {A1 A2 : Option Addr} {xs ys : List Int} (t : TwoF w g h ca cb A1 A2 xs ys u) (hb : Below u.heap.size u u') : TwoF w g h ca cb A1 A2 xs ys u' :=
  ⟨rds_call t.ra hb, rds_call t.rb hb, bx_call t.xa hb, bx_call t.xb hb, t.be.trans (hb.mono t.be.size)⟩
theorem TwoF.alloc {w u : World} {g h : Nat} {ca cb : Array Value} {A1 A2 : Option Addr} {xs ys : List Int} (t : TwoF w g h ca cb A1 A2 xs ys u) (o : Obj) : TwoF w g h ca cb A1 A2 xs ys (u.alloc o) :=
  ⟨rds_alloc t.ra o, rds_alloc t.rb o, t.xa.alloc o, t.xb.alloc o, t.be.alloc t.be.size o⟩
theorem TwoF.drew {w u : World} {g h : Nat} {ca cb : Array Value} {A1 A2 : Option Addr} {xs ys : List Int} (t : TwoF w g h ca cb A1 A2 xs ys u) : TwoF w g h ca cb A1 A2 xs ys u.drew :=
  ⟨t.ra, t.rb, t.xa, t.xb, t.be.drew⟩
set_option maxHeartbeats 32000000 in
theorem walk (w : World) (a0 : Option Addr) (cap0 : Nat) (z0 : List Int) (hc0 : z0.length ≤ cap0) (w0 : Rdw .u8 w w.heap.size a0 z0) :
    Calls Try.prog 7 #[.slice a0 z0.length cap0] w fun e w' => e = .returned (.bool true) ∧ Below w.heap.size w w' := by
  have hm := w0.2.1
  unfold maxLen at hm
  by_cases hlen : 1048576 < z0.length
  · go_enter Try.func7, Try.ntmps7
    go_wp2
    go_ret
    exact ⟨rfl, Below.refl _ _⟩
  · have HD := Lib.hid (drawCnt_any a0 cap0 z0 w hc0 w0)
    clear w0 hc0
    go_enter Try.func7, Try.ntmps7
    go_wp2_with fail
    refine HD.out.mono ?_
    rintro e w1 ⟨W, H, P, A1, c1, xs, W', H', P', A2, c2, ys, rfl, ⟨hx1, hy1⟩, hc1, hc2, hr1, hr2, hb1, _, _⟩
    obtain ⟨u, hu⟩ : ∃ u, u = (w1.alloc (.cells #[.int .i64 W, .int .i64 H, .int .i64 P, .slice A1 xs.length c1] 30)).alloc (.cells #[.int .i64 W', .int .i64 H', .int .i64 P', .slice A2 ys.length c2] 30) := ⟨_, rfl⟩
    obtain ⟨bg, hbg⟩ : ∃ b, b = w1.heap.size := ⟨_, rfl⟩
    obtain ⟨bh, hbh⟩ : ∃ b, b = w1.heap.size + 1 := ⟨_, rfl⟩
    have HT1 : Hid (TwoF w bg bh (imC W H P (.slice A1 xs.length c1)) (imC W' H' P' (.slice A2 ys.length c2)) A1 A2 xs ys u) := Lib.hid (by
      rw [hu]
      have xb := Bx.new (w1.alloc (.cells #[.int .i64 W, .int .i64 H, .int .i64 P, .slice A1 xs.length c1] 30)) 30 (imC W' H' P' (.slice A2 ys.length c2))
      refine ⟨((hr1.alloc (Nat.le_refl _) _).alloc (by simp) _).more (by simp <;> omega), ((hr2.alloc (Nat.le_refl _) _).alloc (by simp) _).more (by simp <;> omega), by rw [hbg]; exact (Bx.new w1 _ _).alloc _, by rw [hbh]; simpa [imC] using xb, (hb1.alloc hb1.size _).alloc (by have := hb1.size; simp; omega) _⟩)
    have HU := Lib.hid hu
    have Hbg := Lib.hid hbg
    have Hbh := Lib.hid hbh
    clear hr1 hr2 hb1 hu hbg hbh
    obtain ⟨ok, hok⟩ : ∃ b, b = fdB W H P xs W' H' P' ys := ⟨_, rfl⟩
    obtain ⟨n, hn⟩ : ∃ n : Int, n = cond ok ((fdZ (fdG W.toNat P.toNat xs W'.toNat H'.toNat ys) ((W.toNat - W'.toNat + 1) * (H.toNat - H'.toNat + 1)) : Nat) : Int) (-1) := ⟨_, rfl⟩
    have HI : Hid (∀ u, TwoF w bg bh (imC W H P (.slice A1 xs.length c1)) (imC W' H' P' (.slice A2 ys.length c2)) A1 A2 xs ys u → Calls Try.prog 16 #[.agg #[.int .i64 W, .int .i64 H, .int .i64 P, .slice A1 xs.length c1], .agg #[.int .i64 W', .int .i64 H', .int .i64 P', .slice A2 ys.length c2]] u fun e w' => e = .returned (.int .i64 n) ∧ Below u.heap.size u w') := Lib.hid (fun u t => by
      rw [hn, hok]; exact i_CountImage W H P W' H' P' A1 A2 c1 c2 xs ys u t.ra (by omega) hc1 t.rb (by omega) hc2)
    have HS : Hid (∀ u, TwoF w bg bh (imC W H P (.slice A1 xs.length c1)) (imC W' H' P' (.slice A2 ys.length c2)) A1 A2 xs ys u → Calls Try.prog 15 #[.agg #[.int .i64 W, .int .i64 H, .int .i64 P, .slice A1 xs.length c1], .agg #[.int .i64 W', .int .i64 H', .int .i64 P', .slice A2 ys.length c2]] u fun e w' => e = .returned (.int .i64 n) ∧ Below u.heap.size u w') := Lib.hid (fun u t => by
      rw [hn, hok]; exact s_CountImage W H P W' H' P' A1 A2 c1 c2 xs ys u t.ra (by omega) hc1 t.rb (by omega) hc2)
    have Hn := Lib.hid hn
    have HOK := Lib.hid hok
    clear hn hok
    go_wp2_with fail
    rw [← HU.out, ← Hbh.out, ← Hbg.out]
    clear HU Hbg Hbh
    refine (HI.out u HT1.out).mono ?_
    rintro e u2 ⟨rfl, hb⟩
    have HT2 := Lib.hid (HT1.out.call hb)
    clear hb HT1 HI
    obtain ⟨a0, a1, a2, a3⟩ := HT2.out.xa.im
    obtain ⟨b0, b1, b2, b3⟩ := HT2.out.xb.im
    go_wp2_with fail
    refine (HS.out u2 HT2.out).mono ?_
    rintro e u3 ⟨rfl, hb⟩
    have HT3 := Lib.hid (HT2.out.call hb)
    clear hb HT2 a0 a1 a2 a3 b0 b1 b2 b3
    obtain ⟨a0, a1, a2, a3⟩ := HT3.out.xa.im
    obtain ⟨b0, b1, b2, b3⟩ := HT3.out.xb.im
    cases ok
    · have hn1 : n = -1 := Hn.out
      clear Hn HOK
      subst hn1
      go_wp2_with fail
      refine (HS.out u3 HT3.out).mono ?_
      rintro e u4 ⟨rfl, hb⟩
      have HB := Lib.hid (HT3.out.call hb).be
      clear hb HT3 a0 a1 a2 a3 b0 b1 b2 b3
      go_wp2
      go_ret
      exact ⟨rfl, HB.out⟩
    · obtain ⟨hv, hl0, hl1⟩ := cnt_law HOK.out.symm
      obtain ⟨hs1, hs2⟩ := self_law hv
      have hnn : ¬ n < 0 := by rw [Hn.out]; simp
      have hn' := Hn.out
      dsimp only [cond] at hn'
      rw [← hn'] at hl1
      obtain ⟨l, hl⟩ : ∃ l, l = fdG W.toNat P.toNat xs W'.toNat H'.toNat ys (fdK W.toNat H.toNat P.toNat xs W'.toNat H'.toNat ys) := ⟨_, rfl⟩
      obtain ⟨x0, hx0⟩ : ∃ x : Nat, x = fdK W.toNat H.toNat P.toNat xs W'.toNat H'.toNat ys % (W.toNat - W'.toNat + 1) := ⟨_, rfl⟩
      obtain ⟨y0, hy0⟩ : ∃ x : Nat, x = fdK W.toNat H.toNat P.toNat xs W'.toNat H'.toNat ys / (W.toNat - W'.toNat + 1) := ⟨_, rfl⟩
      rw [← hl] at hl0 hl1
      have HF : Hid (∀ u, TwoF w bg bh (imC W H P (.slice A1 xs.length c1)) (imC W' H' P' (.slice A2 ys.length c2)) A1 A2 xs ys u → Calls Try.prog 12 #[.agg #[.int .i64 W, .int .i64 H, .int .i64 P, .slice A1 xs.length c1], .agg #[.int .i64 W', .int .i64 H', .int .i64 P', .slice A2 ys.length c2]] u fun e w' => e = .returned (.tuple #[.agg #[.int .i64 (x0 : Int), .int .i64 (y0 : Int), .int .i64 W', .int .i64 H'], .int .i64 l]) ∧ Below u.heap.size u w') := Lib.hid (fun u t => by
        have h := i_FindImage W H P W' H' P' A1 A2 c1 c2 xs ys u t.ra (by omega) hc1 t.rb (by omega) hc2
        rw [← HOK.out] at h
        unfold FndR at h
        rw [← hl, ← hx0, ← hy0] at h
        exact h)
      have HM : Hid (∀ u, TwoF w bg bh (imC W H P (.slice A1 xs.length c1)) (imC W' H' P' (.slice A2 ys.length c2)) A1 A2 xs ys u → Calls Try.prog 16 #[.agg #[.int .i64 W, .int .i64 H, .int .i64 P, .slice A1 xs.length c1], .agg #[.int .i64 W, .int .i64 H, .int .i64 P, .slice A1 xs.length c1]] u fun e w' => e = .returned (.int .i64 1) ∧ Below u.heap.size u w') := Lib.hid (fun u t => by
        have h := i_CountImage W H P W H P A1 A1 c1 c1 xs xs u t.ra (by omega) hc1 t.ra (by omega) hc1
        rw [hs1, hs2] at h
        exact h)
      clear Hn HOK hn' hl hx0 hy0 hs1 hs2 hv HS
      go_wp2_with fail
      refine (HF.out u3 HT3.out).mono ?_
      rintro e u4 ⟨rfl, hb⟩
      have HTc := Lib.hid (HT3.out.call hb)
      have HT4 := Lib.hid (HTc.out.alloc (.cells #[.int .i64 (x0 : Int), .int .i64 (y0 : Int), .int .i64 W', .int .i64 H'] 27))
      clear hb HT3 HF HTc a0 a1 a2 a3 b0 b1 b2 b3
      obtain ⟨u5, hu5⟩ : ∃ x, x = u4.alloc (.cells #[.int .i64 (x0 : Int), .int .i64 (y0 : Int), .int .i64 W', .int .i64 H'] 27) := ⟨_, rfl⟩
      rw [← hu5] at HT4
      have HU5 := Lib.hid hu5
      clear hu5
      obtain ⟨a0, a1, a2, a3⟩ := HT4.out.xa.im
      obtain ⟨b0, b1, b2, b3⟩ := HT4.out.xb.im
      rw [HU5.out] at a0 a1 a2 a3 b0 b1 b2 b3
      go_wp2_with fail
      rw [← HU5.out]
      clear HU5
      refine (HM.out u5 HT4.out).mono ?_
      rintro e u6 ⟨rfl, hb⟩
      have HB := Lib.hid (HT4.out.call hb).be
      clear hb HT4 a0 a1 a2 a3 b0 b1 b2 b3
      go_wp2
      go_ret
      exact ⟨by simp, HB.out⟩

/-! ### From the walk to the statement. -/
theorem own : ownKnob Try.prog.godebug = none := by kernel_rfl
theorem laidOut : laidOutB Try.prog = true := by kernel_rfl
set_option maxRecDepth 100000 in
theorem lifted (os : Os) (started : os.Started) (H : Type) (enc : TypeId × Value → H) :
    ReturnsInHanded {} Try.checked os 7 .any (Rows.fnCountImageSpec.pre6 enc Try.prog Try.f7 Rows.fnCountImageRow.domain false) (Rows.fnCountImageSpec.post enc Try.prog Try.f7 false true false false) := by
  refine returnsInHanded_of_change (C := Try.checked) own started (by kernel_rfl) Try.func7
    (ChangeSpec.witness6 (enc := enc) (C := Try.checked) false ⟨#[], #[.slice none 0 0], []⟩ 8 (by kernel_rfl) (by kernel_rfl) (by kernel_rfl) (by kernel_rfl)) ?_
  intro W base args ds gs before hval0 hW hcnd _
  have hval : ∀ (j : Nat) t v, Try.f7.params[j]? = some t → args[j]? = some v → Value.okWide Try.prog W .any base t v := hval0
  have hW' := hW
  obtain ⟨p, q, hA0, hV, rfl, hfz, hnd⟩ := hW
  have hA : DataW.TrodAll enc Try.prog W 0 (fun _ => true) true Try.f7.params.toList args.toList ds p := hA0
  rw [Try.params7] at hA hval
  obtain ⟨v0, vs0, d0, ds0, p0, q0, hargs, rfl, rfl, h0, r0⟩ := trodAll_cons hA
  obtain ⟨rfl, rfl, rfl⟩ := trodAll_nil r0
  obtain rfl : args = #[v0] := by cases args; simp_all
  obtain ⟨rfl, rfl⟩ := trodVars_none hV
  obtain ⟨a0, len0, cap0, rfl⟩ := okWide_slice Try.underlying36 (hval 0 36 v0 rfl rfl)
  have k0 := h0
  have lt0 : ∀ x ∈ p0, x.block < W.heap.size := by obtain ⟨m, hm⟩ := k0; exact DataW.trod_lt m _ _ _ hm
  obtain ⟨z0, hl0, hc0, w0⟩ : ∃ zs : List Int, len0 = zs.length ∧ zs.length ≤ cap0 ∧ Rdw .u8 W W.heap.size a0 zs := by
    obtain ⟨fuel, hf⟩ := h0
    rcases open_ints Try.underlying36 Try.underlying5 (by kernel_rfl) hf with ⟨hcs, _⟩ | ⟨x, l, c, zs, hcs, _, hl, hm, hz, _, hcell, hwz⟩
    · simp [Value.cells] at hcs
      obtain ⟨rfl, rfl, rfl⟩ := hcs
      exact ⟨[], rfl, Nat.le_refl _, Rdw.nil⟩
    · simp [Value.cells] at hcs
      obtain ⟨rfl, rfl, rfl⟩ := hcs
      exact ⟨zs.take len0, by simp at hz ⊢; omega, by simp at hz ⊢; omega, Rdw.of_row hl hm (by simpa using hz) hcell hwz⟩
  subst hl0
  clear hA0 hval0
  refine (walk W a0 cap0 z0 hc0 w0).mono fun e W' ⟨he, bel⟩ => ?_
  subst he
  exact ⟨_, rfl, _, _, _, [], _, [], hW', trodAll_mk1 (shut_bool Try.underlying4 _), (trodAll_cons_mk (Below.trod laidOut (by kernel_rfl) (of_decide_eq_true (by kernel_rfl)) k0 bel lt0) trodAll_mk0), rfl, bel.frame _, fun h => by cases h⟩

theorem over : Rows.fnCountImageRow.holds Try.pinned (OpenSpec.ofChange Rows.fnCountImageSpec) :=
  OpenClaim.holds_of_wide 7 Try.f7 rfl rfl rfl rfl rfl rfl rfl ⟨rfl, rfl, rfl, rfl, rfl⟩ rfl rfl rfl rfl rfl (by kernel_rfl) Try.func7 (by kernel_rfl)
    (of_decide_eq_true (by kernel_rfl)) (by unfold Func.isWrapper; first | (rw [if_pos (by decide +kernel)]; kernel_rfl) | (rw [if_neg (by decide +kernel)]; exact ⟨rfl, rfl⟩))
    (fun os started H enc _ => lifted os started H enc)

theorem proved : Rows.FnCountImageSaid := over
end Go.Proofs.Ytfjcbdpepbcjcaa.fnCountImage
