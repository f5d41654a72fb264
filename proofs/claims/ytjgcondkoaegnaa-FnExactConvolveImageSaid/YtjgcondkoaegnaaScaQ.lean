/- Contract of ScaleArea in the program. -/
import Derived.Test.YtjgcondkoaegnaaScaP
import Derived.Test.YtjgcondkoaegnaaInvI
namespace Go.Proofs.Ytjgcondkoaegnaa
open Go.RowKit Go.Shelf
set_option linter.unusedSimpArgs false
set_option linter.unusedVariables false
set_option maxRecDepth 20000

set_option maxHeartbeats 16000000 in
theorem iChP_any (W H P a b : Nat) (hW : W ≤ 16) (hH : H ≤ 16) (hP1 : 1 ≤ P) (hP : P ≤ 4) (ha1 : 1 ≤ a) (ha : a ≤ 16) (hb1 : 1 ≤ b) (hb : b ≤ 16) (A : Option Addr) (c : Nat) (xs : List Int) (hl : xs.length = W * H * P) (G : Nat → Nat → Nat → Int) (gf : Nat) (fcs : Array Value) (w : World) (hr : Rds .i64 w w.heap.size A xs)
    (eg : ∀ args w, (callFunc gf args).run Try.prog w = .ok (.enter gf args) w)
    (hcl : ∀ (p : Nat) (A' : Option Addr) (c' n' : Nat) (w' : World), p < P → Below w.heap.size w w' → W * H = n' → n' ≤ c' → Rds .i64 w' w'.heap.size A' (grN W H (fun x y => px W P xs x y p)) → Calls Try.prog gf (#[.agg #[.int .i64 (W : Int), .int .i64 (H : Int), .slice A' n' c']] ++ fcs) w' (GridI a b (G p) w')) :
    Calls Try.prog 32 #[.agg #[.int .i64 (W : Int), .int .i64 (H : Int), .int .i64 (P : Int), .slice A xs.length c], .func (.func gf) #[] fcs] w (MadeI a b P (img a b P (fun x y p => G p x y)) w) := by
  have Hr := Lib.hid hr
  have Hl := Lib.hid hl
  have HC := Lib.hid hcl
  obtain ⟨n, hn⟩ : ∃ n, n = a * b := ⟨_, rfl⟩
  have Hn := Lib.hid hn
  have HI0 : Hid (Pls w ((w.alloc (.cells #[.int .i64 (W : Int), .int .i64 (H : Int), .int .i64 (P : Int), .slice A xs.length c] 29)).alloc (.cells #[.int .i64 0, .int .i64 0, .int .i64 0, .slice none 0 0] 29)) W H P A xs.length c (.slice none 0 0) 0 a b n G (fun _ => none) (fun _ => 0)) := Lib.hid (by
    have e := Bx.new (w.alloc (.cells #[.int .i64 (W : Int), .int .i64 (H : Int), .int .i64 (P : Int), .slice A xs.length c] 29)) 29 #[.int .i64 0, .int .i64 0, .int .i64 0, .slice none 0 0]
    rw [World.size_alloc] at e
    exact ⟨((Below.refl _ _).alloc (Nat.le_refl _) _).alloc (by simp) _, (Bx.new w _ _).alloc _, e, World.ownsRow_nil _ _ _ _, fun i hi => by omega, fun i hi => by omega, fun i hi => by omega⟩)
  have Hz0 : Hid (((w.alloc (.cells #[.int .i64 (W : Int), .int .i64 (H : Int), .int .i64 (P : Int), .slice A xs.length c] 29)).alloc (.cells #[.int .i64 0, .int .i64 0, .int .i64 0, .slice none 0 0] 29)).heap.size = w.heap.size + 2) := Lib.hid (by simp)
  clear hr hl hcl hn
  go_enter Try.func32, Try.ntmps32
  go_wp2
  generalize (w.alloc (.cells #[.int .i64 (W : Int), .int .i64 (H : Int), .int .i64 (P : Int), .slice A xs.length c] 29)).alloc (.cells #[.int .i64 0, .int .i64 0, .int .i64 0, .slice none 0 0] 29) = u0 at *
  go_loopw [5, 9] (fun v i wr => ∃ (k : Nat) (As : Nat → Option Addr) (cs : Nat → Nat), k ≤ P ∧ i = .int .i64 (k : Int) ∧ Hid (Pls w wr W H P A xs.length c v k a b n G As cs ∧ w.heap.size + 2 ≤ wr.heap.size)) (fun _ i _ => P - (intOf i).toNat)
  case atStart => exact ⟨0, _, _, Nat.zero_le _, rfl, Lib.hid ⟨HI0.out, by have := Hz0.out; omega⟩⟩
  case round =>
    obtain ⟨k, As, cs, hk, rfl, hI⟩ := hrel
    clear HI0
    by_cases hlt : k < P
    · have hPl := hI.out.1
      have hz := hI.out.2
      obtain ⟨m0, m1, m2, m3⟩ := bx4 hPl.x0
      have hml := hPl.x0.lt
      have HB := Lib.hid hPl.bel
      have HI := Lib.hid hI.out
      clear hI hPl
      go_wp2_with fail
      refine (iPlane_any W H P k hW hH hP hlt A c xs Hl.out wr ((Hr.out.below HB.out).more HB.out.size)).mono ?_
      rintro e w2 ⟨v2, rfl, hO2, hB2⟩
      obtain ⟨A2, c2, rfl, hc2⟩ := hO2.slice
      have HP2 := Lib.hid (HI.out.1.call hB2)
      have HR2 := Lib.hid hO2.rds.2
      have HZ2 : Hid (w.heap.size + 2 ≤ w2.heap.size ∧ wr.heap.size ≤ w2.heap.size) := Lib.hid ⟨by have := hB2.size; omega, hB2.size⟩
      clear hO2 hB2 m0 m1 m2 m3
      go_wp2_with fail
      refine (HC.out k A2 c2 _ w2 hlt HP2.out.bel (grN_len W H (fun x y => px W P xs x y k)).symm hc2 HR2.out).mono ?_
      rintro e w3 ⟨v3, rfl, hO3, hB3⟩
      have hlen : (img a b 1 (fun x y _ => G k x y)).length = n := by rw [Hn.out]; exact grN_len a b (G k)
      obtain ⟨A3, c3, rfl, hc3⟩ := hO3.slice
      rw [hlen] at hO3 hc3 ⊢
      have HP3 := Lib.hid ((HP2.out.call hB3).call ((Below.refl w3.heap.size w3).alloc (Nat.le_refl _) (.cells #[.int .i64 (a : Int), .int .i64 (b : Int), .slice A3 n c3] 59)))
      have HR3 : Hid (Rds .i64 (w3.alloc (.cells #[.int .i64 (a : Int), .int .i64 (b : Int), .slice A3 n c3] 59)) (w3.alloc (.cells #[.int .i64 (a : Int), .int .i64 (b : Int), .slice A3 n c3] 59)).heap.size A3 (grN a b (G k))) := Lib.hid ((hO3.rds.2.alloc (Nat.le_refl _) _).more (by simp))
      have HS3 : Hid (∀ ad, A3 = some ad → (∀ g, u5.ownBlock = some g → ad.block ≠ g) ∧ ad.block < (w3.alloc (.cells #[.int .i64 (a : Int), .int .i64 (b : Int), .slice A3 n c3] 59)).heap.size) := Lib.hid (fun ad e => by
        subst e
        have h1 := hO3.lt ad.block rfl
        refine ⟨fun g eg => ?_, by simp; omega⟩
        have h2 := (HI.out.1.ow.lt g eg).2
        have h3 := HZ2.out.2
        omega)
      have HZ3 : Hid (w.heap.size + 2 ≤ (w3.alloc (.cells #[.int .i64 (a : Int), .int .i64 (b : Int), .slice A3 n c3] 59)).heap.size) := Lib.hid (by have := HZ2.out.1; have := hB3.size; simp; omega)
      have HNw : Hid (∀ j u, [Value.int .i64 (a : Int), .int .i64 (b : Int), .slice A3 n c3][j]? = some u → (w3.alloc (.cells #[.int .i64 (a : Int), .int .i64 (b : Int), .slice A3 n c3] 59)).cell? ((⟨w3.heap.size, 0, none⟩ : Addr).add j) = some u) := Lib.hid (fun j u hj => by
        have h := heap_alloc_new w3 (.cells #[.int .i64 (a : Int), .int .i64 (b : Int), .slice A3 n c3] 59)
        rw [add_spot rfl j, Nat.zero_add, cell_of_row _ _ j _ _ _ h]
        simpa using hj)
      have hk1000 : k ≤ 1000 := by omega
      clear hO3 hB3 HP2 HR2
      go_wp2_with (at_builtin; refine wpList_app3 rfl (.tmp 12) (.tmp 18) rfl (w.heap.size + 2) u5 k (plv a b n As cs k) rfl HP3.out.ow ⟨w3.heap.size, 0, none⟩ 1 _ _ _ rfl HNw.out (by intro u hu; simp at hu; rcases hu with rfl | rfl | rfl <;> rfl) hk1000 HZ3.out ?_; intro v5 w5 hO5 hG5 hW5)
      have HN := Lib.hid (And.intro (HP3.out.app HR3.out hc3 HS3.out hO5 hG5 hW5 HZ3.out) (show w.heap.size + 2 ≤ w5.heap.size by have := HZ3.out; have := hG5.size; omega))
      clear hO5 hG5 hW5 HP3 HR3 HS3 HNw
      go_roundw
      case rel => exact ⟨k + 1, _, _, by omega, by go_num, HN⟩
      case measure => simp [intOf]; omega
    · have hkP : k = P := by omega
      subst hkP
      have hPl := hI.out.1
      rcases hPl.ow.2 with ⟨_, h0⟩ | ⟨g, cap, cur, rfl, hbg, hg, hnc, hcm, hcs, htake⟩
      · omega
      · have HX1 := Lib.hid hPl.x1
        have HB := Lib.hid hPl.bel
        have HJ := Lib.hid (join_any a b k ha1 ha hb1 hb hP1 hP g 0 cap (fun x y i => G i x y) As cs wr (hPl.ow.lt g rfl).2 (fun i hi => by
          have hgt := plv_get a b n As cs i k hi
          have hcl := hPl.ow.cells (g := g) rfl
          have e0 := hcl (i * 3) _ hgt.1
          have e1 := hcl (i * 3 + 1) _ hgt.2.1
          have e2 := hcl (i * 3 + 2) _ hgt.2.2
          rw [add_spot rfl] at e0 e1 e2
          rw [Hn.out] at e2
          exact ⟨e0, by simpa [Nat.add_assoc] using e1, by simpa [Nat.add_assoc] using e2⟩) (fun i hi => ⟨(hPl.rows i hi).1, by have := (hPl.rows i hi).2; rw [Hn.out] at this; exact this⟩))
        have HZ := Lib.hid hI.out.2
        clear hI hPl hg hcs htake hnc hcm
        go_wp2_with fail
        refine HJ.out.mono ?_
        rintro e w6 ⟨v6, rfl, hO6, hB6⟩
        obtain ⟨A6, c6, rfl, _⟩ := hO6.slice
        have hX6 := HX1.out.below hB6
        obtain ⟨r0, r1, r2, r3⟩ := bx4 hX6
        have f0 := hX6.fz 0
        have f1 := hX6.fz 1
        have f2 := hX6.fz 2
        have f3 := hX6.fz 3
        have HE := Lib.hid (im_end (w := w) (r := w.heap.size + 1) hO6 (by have := HZ.out; omega) (by omega) (HB.out.trans (hB6.mono HB.out.size)) (.int .i64 (a : Int)) (.int .i64 (b : Int)) (.int .i64 (k : Int)) (.slice A6 (img a b k (fun x y i => G i x y)).length c6))
        clear hX6 hO6 hB6 HX1 HJ
        go_wp2
        exact bodyPost_ret (v := .agg #[.int .i64 (a : Int), .int .i64 (b : Int), .int .i64 (k : Int), .slice A6 (img a b k (fun x y i => G i x y)).length c6]) (by simp [results, Try.results32, go_sem, r0, r1, r2, r3]) rfl ⟨_, rfl, HE.out.1, HE.out.2⟩
/-- The numbers of an image scaled by areas. -/
def areL (W H P : Nat) (xs : List Int) (a b : Nat) : List Int := img a b P (fun x y p => arN W H a b (fun x y => px W P xs x y p) x y)
end Go.Proofs.Ytjgcondkoaegnaa
