/- Contract of DrawMergePlanes. -/
import Derived.Test.YtfeldhhbnhdodaaDrawHis
import Derived.Test.YtfeldhhbnhdodaaPlnS
import Derived.Test.YtfeldhhbnhdodaaPlnL
import Derived.Test.YtfeldhhbnhdodaaLim
namespace Go.Proofs.Ytfeldhhbnhdodaa
open Go.RowKit Go.Shelf
set_option linter.unusedSimpArgs false
set_option linter.unusedVariables false
set_option maxRecDepth 20000

/-- Drawn from a code: a list of few images. -/
def DrawnMrg (w : World) (e : Ending) (w' : World) : Prop :=
  ∃ (ms : List Imv) (A : Option Addr) (c : Nat), e = .returned (.slice A ms.length c) ∧ ms.length ≤ 5 ∧ Hid (∀ i, i < ms.length → (imv ms i).ds.length ≤ 256) ∧ Rdim w' w'.heap.size A ms ∧ Below w.heap.size w w'
theorem imv_snoc (ms : List Imv) (m : Imv) {i : Nat} (h : i < (ms ++ [m]).length) : imv (ms ++ [m]) i = if i = ms.length then m else imv ms i := by
  by_cases e : i = ms.length
  · rw [if_pos e, e]; unfold imv; simp [List.getD_eq_getElem?_getD]
  · rw [if_neg e]
    have : i < ms.length := by simp at h; omega
    unfold imv; simp [List.getD_eq_getElem?_getD, List.getElem?_append_left this]
set_option maxHeartbeats 8000000 in
theorem drawMrg_any (A : Option Addr) (c : Nat) (bs : List Int) (w : World) (hc : bs.length ≤ c) (h : Rdw .u8 w w.heap.size A bs) :
    Calls Try.prog 14 #[.slice A bs.length c] w (DrawnMrg w) := by
  have Hh := Lib.hid h
  clear h
  go_enter Try.func14, Try.ntmps14
  go_wp2_with fail
  refine (newReader_any A c bs w hc Hh.out).mono ?_
  rintro e u1 ⟨rfl, hr1, hb1, hs1⟩
  have HB1 := Lib.hid hb1
  obtain ⟨g, hg⟩ : ∃ g, g = w.heap.size := ⟨_, rfl⟩
  rw [← hg] at hr1 ⊢
  have Hg := Lib.hid hg
  have HR1 := Lib.hid hr1
  have Hs1 := Lib.hid hs1
  clear hb1 hr1 hs1 Hh hg
  go_wp2_with fail
  refine (anyImage_any g 0 u1 HR1.out (by omega)).mono ?_
  rintro e u3 ⟨W3, H3, P3, A3, c3, ys, rfl, hy, hyc, hr3, hR3, hG3, hA3⟩
  have HB3 : Hid (Below w.heap.size w u3) := Lib.hid (HB1.out.grown hG3 HB1.out.size (fun k hk => by injection hk with hk; have := Hg.out; omega))
  have HR3 := Lib.hid hR3
  have Hr3 := Lib.hid hr3
  have Hl3 : Hid (g < u3.heap.size) := Lib.hid hR3.lt
  clear hR3 hr3 hG3 hA3 HB1 HR1 Hs1
  go_wp2_with fail
  refine (s_SplitPlanes W3 H3 P3 A3 c3 ys u3 Hr3.out (by omega) hyc).mono ?_
  rintro e u4 ⟨v, rfl, hI⟩
  have hb4 := spL_len4 W3 H3 P3 ys
  have HL4 := Lib.hid (Lim.of hI)
  have HB4 : Hid (Below w.heap.size w u4) := Lib.hid (HB3.out.trans (hI.below.mono HB3.out.size))
  have HR4 : Hid (Rdr u4 g 304) := Lib.hid ((HR3.out.below hI.below (by have := Hl3.out; omega)).more (by omega))
  have Hz4 : Hid (u3.heap.size ≤ u4.heap.size) := Lib.hid hI.below.size
  generalize spL W3 H3 P3 ys = ms at *
  have HM4 := Lib.hid hb4
  clear hI hb4 HB3 HR3 Hr3
  obtain ⟨A4, c4, rfl, _⟩ := HL4.out.slice
  go_wp2_with fail
  refine (pick_any 8 g 304 u4 HR4.out (by omega) (by omega)).mono ?_
  intro e u5 hp
  obtain ⟨q, rfl, hq, hR5, hG5, hs5⟩ := picked_nat hp (by omega)
  have HL5 : Hid (Lim u5 u3.heap.size (.slice A4 ms.length c4) ms) := Lib.hid (HL4.out.off hG5 Hl3.out)
  have HB5 : Hid (Below w.heap.size w u5) := Lib.hid (HB4.out.grown hG5 HB4.out.size (fun k hk => by injection hk with hk; have := Hg.out; omega))
  have HR5 := Lib.hid hR5
  have Hz5 : Hid (u5.heap.size = u4.heap.size) := Lib.hid hs5
  have Hv5 : Hid (∀ g, (Value.slice A4 ms.length c4).ownBlock = some g → u3.heap.size ≤ g ∧ g < u5.heap.size) := Lib.hid (fun g hg => by
    obtain ⟨_, cs, hO, _⟩ := HL5.out
    exact World.ownsRow.lt hO g hg)
  clear hp hR5 hG5 hs5 HL4 HB4 HR4
  by_cases h0 : q = 0
  · subst h0
    go_wp2_with fail
    refine (grayImage_any g 305 u5 HR5.out (by omega)).mono ?_
    rintro e u6 ⟨W6, H6, P6, A6, c6, zs, rfl, hzl, hzc, hr6, hR6, hG6, hA6⟩
    have hL6 : Lim u6 u3.heap.size (.slice A4 ms.length c4) ms := HL5.out.off hG6 Hl3.out
    have hB6 : Below w.heap.size w u6 := HB5.out.grown hG6 HB5.out.size (fun k hk => by injection hk with hk; have := Hg.out; omega)
    have hsz6 := hG6.size
    have HL7 := Lib.hid (hL6.below ((Below.refl u6.heap.size u6).alloc (Nat.le_refl _) (.cells #[.int .i64 W6, .int .i64 H6, .int .i64 P6, .slice A6 zs.length c6] 25)))
    have HB7 : Hid (Below w.heap.size w (u6.alloc (.cells #[.int .i64 W6, .int .i64 H6, .int .i64 P6, .slice A6 zs.length c6] 25))) := Lib.hid (hB6.alloc hB6.size _)
    have Hr7 : Hid (Rds .i64 (u6.alloc (.cells #[.int .i64 W6, .int .i64 H6, .int .i64 P6, .slice A6 zs.length c6] 25)) (u6.alloc (.cells #[.int .i64 W6, .int .i64 H6, .int .i64 P6, .slice A6 zs.length c6] 25)).heap.size A6 zs) := Lib.hid ((hr6.alloc (Nat.le_refl _) _).more (by simp))
    have hcl := Bx.new u6 25 #[.int .i64 W6, .int .i64 H6, .int .i64 P6, .slice A6 zs.length c6]
    obtain ⟨z0, z1, z2, z3⟩ := bx4 hcl
    have x0 : (u6.alloc (.cells #[.int .i64 W6, .int .i64 H6, .int .i64 P6, .slice A6 zs.length c6] 25)).cell? ((⟨u6.heap.size, 0, none⟩ : Addr).add 0) = some (.int .i64 W6) := by rw [add_spot rfl]; exact z0
    have x1 : (u6.alloc (.cells #[.int .i64 W6, .int .i64 H6, .int .i64 P6, .slice A6 zs.length c6] 25)).cell? ((⟨u6.heap.size, 0, none⟩ : Addr).add 1) = some (.int .i64 H6) := by rw [add_spot rfl]; exact z1
    have x2 : (u6.alloc (.cells #[.int .i64 W6, .int .i64 H6, .int .i64 P6, .slice A6 zs.length c6] 25)).cell? ((⟨u6.heap.size, 0, none⟩ : Addr).add 2) = some (.int .i64 P6) := by rw [add_spot rfl]; exact z2
    have x3 : (u6.alloc (.cells #[.int .i64 W6, .int .i64 H6, .int .i64 P6, .slice A6 zs.length c6] 25)).cell? ((⟨u6.heap.size, 0, none⟩ : Addr).add 3) = some (.slice A6 zs.length c6) := by rw [add_spot rfl]; exact z3
    have HS7 : Hid (0 < zs.length → ∀ a : Addr, A6 = some a → u3.heap.size ≤ a.block ∧ a.block < (u6.alloc (.cells #[.int .i64 W6, .int .i64 H6, .int .i64 P6, .slice A6 zs.length c6] 25)).heap.size ∧ (Value.slice A4 ms.length c4).ownBlock ≠ some a.block) := Lib.hid (fun hz a ha => by
      have h1 := hA6 a ha
      obtain ⟨b, off, e, hb, _⟩ := hr6.cells_ (j := 0) hz
      rw [ha] at e
      injection e with e
      subst e
      have h2 := Hz4.out
      have h3 := Hz5.out
      refine ⟨?_, ?_, fun e => ?_⟩
      · show u3.heap.size ≤ b
        have h1 : u5.heap.size ≤ b := h1
        omega
      · show b < _
        rw [World.size_alloc]; omega
      · have h4 := (Hv5.out b e).2
        have h1 : u5.heap.size ≤ b := h1
        omega)
    have hm1000 : ms.length ≤ 1000 := by have := HM4.out.1; omega
    have Hwl : Hid (w.heap.size ≤ u3.heap.size) := Lib.hid (by have := Hl3.out; have := Hg.out; omega)
    clear hL6 hB6 hsz6 hr6 hR6 hG6 hA6 hcl z0 z1 z2 z3 HL5 HR5 HB5 Hz5 Hv5
    go_wp2_with (at_builtin; refine wpList_appLim (v := .slice A4 ms.length c4) rfl (.tmp 13) (.tmp 16) rfl rfl HL7.out ⟨u6.heap.size, 0, none⟩ 1 rfl ⟨W6, H6, P6, zs⟩ A6 zs.length c6 hzc hm1000 rfl x0 x1 x2 x3 Hr7.out HS7.out ?_; intro v5 w5 hL8 hG8 hlo8)
    obtain ⟨A8, c8, rfl, _⟩ := hL8.slice
    have HE : Hid (DrawnMrg w (.returned (.slice A8 (ms ++ [(⟨W6, H6, P6, zs⟩ : Imv)]).length c8)) w5) := Lib.hid ⟨_, A8, c8, rfl, by simp; have := HM4.out.1; omega, Lib.hid (fun i hi => by
      rw [imv_snoc ms _ hi]
      by_cases e : i = ms.length
      · rw [if_pos e]; exact hzl.1
      · rw [if_neg e]; exact HM4.out.2 i (by simp at hi; omega)), hL8.rds, HB7.out.grown hG8 HB7.out.size (fun k hk => Nat.le_trans Hwl.out (hlo8 k hk))⟩
    clear hL8 hG8 hlo8 HL7 HB7 Hr7 HS7 x0 x1 x2 x3
    go_ret
    exact HE.out
  · have hq0 : ((q : Int) == 0) = false := beq_eq_false_iff_ne.2 (by omega)
    have HE : Hid (DrawnMrg w (.returned (.slice A4 ms.length c4)) u5) := Lib.hid ⟨ms, A4, c4, rfl, by have := HM4.out.1; omega, Lib.hid HM4.out.2, HL5.out.rds, HB5.out⟩
    clear HL5 HB5 HR5
    go_wp2
    go_ret
    exact HE.out
end Go.Proofs.Ytfeldhhbnhdodaa
