/- Contracts of InvertImage and MapImage in the program. -/
import Derived.Test.YtebfaomlljekiaaChg
import Derived.Test.YtebfaomlljekiaaGenP
import Derived.Shelf.Abstract
namespace Go.Proofs.Ytebfaomlljekiaa
open Go.RowKit Go.Shelf
set_option linter.unusedSimpArgs false
set_option linter.unusedVariables false
set_option maxRecDepth 20000

theorem bytes_of {W H P : Int} {xs : List Int} (hv : vim W H P xs = true) : ∀ j, j < xs.length → 0 ≤ xs.getD j 0 ∧ xs.getD j 0 ≤ 255 := fun j hj => by
  have hv' : vim W H P xs = (vsh W H P && (decide ((xs.length : Int) = W * H * P) && allB 0 255 xs)) := rfl
  rw [hv] at hv'
  have ha : allB 0 255 xs = true := by
    cases h : allB 0 255 xs
    · rw [h] at hv'; simp at hv'
    · rfl
  have := of_decide_eq_true ha (xs[j]) (List.getElem_mem hj)
  simpa [hj] using this
set_option maxHeartbeats 8000000 in
theorem i_Invert1 (x : Int) (h0 : 0 ≤ x) (h1 : x ≤ 255) (w : World) : Calls Try.prog 81 (#[.int .i64 x] ++ #[]) w fun e w' => e = .returned (.int .i64 (255 - x)) ∧ Below w.heap.size w w' := by
  show Calls Try.prog 81 #[.int .i64 x] w _
  go_enter Try.func81, Try.ntmps81
  go_wp2
  go_ret
  exact ⟨rfl, Below.refl _ _⟩
set_option maxHeartbeats 8000000 in
theorem i_Invert (W H P : Int) (A : Option Addr) (c : Nat) (xs : List Int) (w : World) (hx : Rds .i64 w w.heap.size A xs) (hl : xs.length ≤ 2000000) :
    Calls Try.prog 19 #[.agg #[.int .i64 W, .int .i64 H, .int .i64 P, .slice A xs.length c]] w (MadeIf (vim W H P xs) W H P (inv xs) w) := by
  have HX := Lib.hid hx
  clear hx
  have S0 := ((GS.start w).box' 25 #[.int .i64 W, .int .i64 H, .int .i64 P, .slice A xs.length c] w.heap.size (by simp)).box' 25 #[.int .i64 0, .int .i64 0, .int .i64 0, .slice none 0 0] (w.heap.size + 1) (by simp)
  go_enter Try.func19, Try.ntmps19
  go_wp2_with fail
  generalize (w.alloc (.cells #[.int .i64 W, .int .i64 H, .int .i64 P, .slice A xs.length c] 25)).alloc (.cells #[.int .i64 0, .int .i64 0, .int .i64 0, .slice none 0 0] 25) = u0 at *
  refine (iVimg_any W H P A c xs u0 (S0.arg HX.out) hl).mono ?_
  rintro e u1 ⟨rfl, hB⟩
  have S1 := S0.call hB
  clear hB S0
  cases hv : vim W H P xs
  · have Hv := Lib.hid hv
    obtain ⟨r0, r1, r2, r3⟩ := S1.b0_4
    have f0 := S1.f0 0
    have f1 := S1.f0 1
    have f2 := S1.f0 2
    have f3 := S1.f0 3
    have HE := Lib.hid (S1.e0_4 (.int .i64 0) (.int .i64 0) (.int .i64 0) (.slice none 0 0)).1
    clear S1 hv
    go_wp2
    exact bodyPost_ret (v := .agg #[.int .i64 0, .int .i64 0, .int .i64 0, .slice none 0 0]) (by simp [results, Try.results19, go_sem, r0, r1, r2, r3]) rfl (MadeIf.no Hv.out ⟨_, rfl, World.ownsRow_nil _ _ _ _, HE.out⟩)
  · have Hv := Lib.hid hv
    have HB := Lib.hid (bytes_of hv)
    obtain ⟨b0, b1, b2, b3⟩ := S1.b1_4
    have HS := Lib.hid S1
    clear S1 hv
    go_wp2_with fail
    refine (change_any W H P A c xs (fun n => 255 - n) 81 #[] u1 (HS.out.arg HX.out) hl (enters_of Try.func81 (by kernel_rfl) rfl) (fun j w' hj _ => i_Invert1 _ (HB.out j hj).1 (HB.out j hj).2 w')).mono ?_
    rintro e u2 ⟨v, rfl, hO, hB⟩
    obtain ⟨A7, c7, rfl, _⟩ := hO.slice
    rw [List.length_map] at hO ⊢
    have S2 := HS.out.add hO hB
    obtain ⟨r0, r1, r2, r3⟩ := S2.b0_4
    have f0 := S2.f0 0
    have f1 := S2.f0 1
    have f2 := S2.f0 2
    have f3 := S2.f0 3
    have HE := Lib.hid (S2.e0_4 (.int .i64 W) (.int .i64 H) (.int .i64 P) (.slice A7 xs.length c7))
    clear S2 HS hO hB b0 b1 b2 b3
    go_wp2
    exact bodyPost_ret (v := .agg #[.int .i64 W, .int .i64 H, .int .i64 P, .slice A7 xs.length c7]) (by simp [results, Try.results19, go_sem, r0, r1, r2, r3]) rfl (MadeIf.yes Hv.out ⟨_, rfl, HE.out.2 _ (List.Mem.head _), HE.out.1⟩)
def mpOk (W H P : Int) (xs ls : List Int) : Bool := vim W H P xs && (decide (ls.length = 256) && allB 0 255 ls)
def mpF (ls : List Int) (n : Int) : Int := ls.getD n.toNat 0
def mpL (ls xs : List Int) : List Int := xs.map (mpF ls)
/-- An image and whether there is one. -/
def MadeIb (b : Bool) (W H P : Int) (xs : List Int) (w : World) (e : Ending) (w' : World) : Prop :=
  ∃ v, e = .returned (.tuple #[.agg #[.int .i64 (cond b W 0), .int .i64 (cond b H 0), .int .i64 (cond b P 0), v], .bool b]) ∧ Own w' w.heap.size v (cond b xs []) ∧ Below w.heap.size w w'
set_option maxHeartbeats 8000000 in
theorem i_Map1 (x : Int) (h0 : 0 ≤ x) (h1 : x ≤ 255) (A : Option Addr) (c p : Nat) (ls : List Int) (hl : ls.length = 256) (w : World) (hr : Rds .i64 w w.heap.size A ls) (hp : w.cell? ⟨p, 0, none⟩ = some (.slice A ls.length c)) :
    Calls Try.prog 77 (#[.int .i64 x] ++ #[.pointer (some ⟨p, 0, none⟩)]) w fun e w' => e = .returned (.int .i64 (mpF ls x)) ∧ Below w.heap.size w w' := by
  obtain ⟨n, rfl⟩ : ∃ n : Nat, x = n := ⟨x.toNat, by omega⟩
  have hn : n < ls.length := by omega
  obtain ⟨b, off, rfl, _, hc⟩ := hr.cells_ hn
  have hcn := hc n hn
  have e : mpF ls n = ls.getD n 0 := rfl
  rw [e]
  clear hc hr e h0 h1
  generalize ls.getD n 0 = y at *
  show Calls Try.prog 77 #[.int .i64 (n : Int), .pointer (some ⟨p, 0, none⟩)] w _
  go_enter Try.func77, Try.ntmps77
  go_wp2
  go_ret
  exact ⟨rfl, Below.refl _ _⟩
set_option maxHeartbeats 8000000 in
theorem i_MapImage (W H P : Int) (A A' : Option Addr) (c c' : Nat) (xs ls : List Int) (w : World) (hx : Rds .i64 w w.heap.size A xs) (hl : xs.length ≤ 2000000) (hx' : Rds .i64 w w.heap.size A' ls) (hl' : ls.length ≤ 2000000) :
    Calls Try.prog 16 #[.agg #[.int .i64 W, .int .i64 H, .int .i64 P, .slice A xs.length c], .slice A' ls.length c'] w (MadeIb (mpOk W H P xs ls) W H P (mpL ls xs) w) := by
  have HX := Lib.hid hx
  have HX' := Lib.hid hx'
  have HV : Hid (mpOk W H P xs ls = (vim W H P xs && (decide (ls.length = 256) && allB 0 255 ls))) := Lib.hid rfl
  clear hx hx'
  have S0 := (((GS.start w).box' 25 #[.int .i64 W, .int .i64 H, .int .i64 P, .slice A xs.length c] w.heap.size (by simp)).box' 23 #[.slice A' ls.length c'] (w.heap.size + 1) (by simp)).box' 25 #[.int .i64 0, .int .i64 0, .int .i64 0, .slice none 0 0] (w.heap.size + 1 + 1) (by simp)
  go_enter Try.func16, Try.ntmps16
  go_wp2_with fail
  generalize ((w.alloc (.cells #[.int .i64 W, .int .i64 H, .int .i64 P, .slice A xs.length c] 25)).alloc (.cells #[.slice A' ls.length c'] 23)).alloc (.cells #[.int .i64 0, .int .i64 0, .int .i64 0, .slice none 0 0] 25) = u0 at *
  refine (iVimg_any W H P A c xs u0 (S0.arg HX.out) hl).mono ?_
  rintro e u1 ⟨rfl, hB⟩
  have S1 := S0.call hB
  have HS := Lib.hid S1
  have d0 := S1.b1_1
  clear hB S0 S1
  cases hv : vim W H P xs
  · have HF : Hid (mpOk W H P xs ls = false) := Lib.hid (by rw [HV.out, hv]; rfl)
    obtain ⟨r0, r1, r2, r3⟩ := HS.out.b0_4
    have f0 := HS.out.f0 0
    have f1 := HS.out.f0 1
    have f2 := HS.out.f0 2
    have f3 := HS.out.f0 3
    have HE := Lib.hid (HS.out.e0_4 (.int .i64 0) (.int .i64 0) (.int .i64 0) (.slice none 0 0)).1
    clear HV hv HS
    go_wp2
    exact bodyPost_ret (v := .tuple #[.agg #[.int .i64 0, .int .i64 0, .int .i64 0, .slice none 0 0], .bool false]) (by simp [results, Try.results16, go_sem, r0, r1, r2, r3]) rfl ⟨_, by rw [HF.out]; rfl, by rw [HF.out]; exact World.ownsRow_nil _ _ _ _, HE.out⟩
  · have Hv := Lib.hid hv
    by_cases hn : ls.length = 256
    · have HN := Lib.hid hn
      have hn1 : ((ls.length : Int) = 256) := by omega
      clear hn
      go_wp2_with fail
      refine (areBytes_any A' c' _ ls u1 (HS.out.arg HX'.out) (by omega)).mono ?_
      rintro e u2 ⟨rfl, rfl⟩
      cases hb : allB 0 255 ls
      · have HF : Hid (mpOk W H P xs ls = false) := Lib.hid (by rw [HV.out, hv, hb]; simp)
        obtain ⟨r0, r1, r2, r3⟩ := HS.out.b0_4
        have f0 := HS.out.f0 0
        have f1 := HS.out.f0 1
        have f2 := HS.out.f0 2
        have f3 := HS.out.f0 3
        have HE := Lib.hid (HS.out.e0_4 (.int .i64 0) (.int .i64 0) (.int .i64 0) (.slice none 0 0)).1
        clear HV hv HS hb
        go_wp2
        exact bodyPost_ret (v := .tuple #[.agg #[.int .i64 0, .int .i64 0, .int .i64 0, .slice none 0 0], .bool false]) (by simp [results, Try.results16, go_sem, r0, r1, r2, r3]) rfl ⟨_, by rw [HF.out]; rfl, by rw [HF.out]; exact World.ownsRow_nil _ _ _ _, HE.out⟩
      · have HF : Hid (mpOk W H P xs ls = true) := Lib.hid (by rw [HV.out, hv, hb, HN.out]; rfl)
        have HB := Lib.hid (bytes_of hv)
        obtain ⟨b0, b1, b2, b3⟩ := HS.out.b2_4
        clear HV hv hb
        go_wp2_with fail
        refine (change_any W H P A c xs (mpF ls) 77 #[.pointer (some ⟨w.heap.size + 1, 0, none⟩)] u1 (HS.out.arg HX.out) hl (enters_of Try.func77 (by kernel_rfl) rfl) (fun j w' hj hbel => i_Map1 _ (HB.out j hj).1 (HB.out j hj).2 A' c' (w.heap.size + 1) ls HN.out w' ((HS.out.call hbel).arg HX'.out) (HS.out.call hbel).b1_1)).mono ?_
        rintro e u2 ⟨v, rfl, hO, hB⟩
        obtain ⟨A7, c7, rfl, _⟩ := hO.slice
        rw [List.length_map] at hO ⊢
        have S2 := HS.out.add hO hB
        obtain ⟨r0, r1, r2, r3⟩ := S2.b0_4
        have f0 := S2.f0 0
        have f1 := S2.f0 1
        have f2 := S2.f0 2
        have f3 := S2.f0 3
        have HE := Lib.hid (S2.e0_4 (.int .i64 W) (.int .i64 H) (.int .i64 P) (.slice A7 xs.length c7))
        clear S2 HS hO hB b0 b1 b2 b3 d0
        go_wp2
        exact bodyPost_ret (v := .tuple #[.agg #[.int .i64 W, .int .i64 H, .int .i64 P, .slice A7 xs.length c7], .bool true]) (by simp [results, Try.results16, go_sem, r0, r1, r2, r3]) rfl ⟨_, by rw [HF.out]; rfl, by rw [HF.out]; exact HE.out.2 _ (List.Mem.head _), HE.out.1⟩
    · have HF : Hid (mpOk W H P xs ls = false) := Lib.hid (by rw [HV.out, hv, decide_eq_false hn]; rfl)
      have hn1 : ¬ ((ls.length : Int) = 256) := by omega
      obtain ⟨r0, r1, r2, r3⟩ := HS.out.b0_4
      have f0 := HS.out.f0 0
      have f1 := HS.out.f0 1
      have f2 := HS.out.f0 2
      have f3 := HS.out.f0 3
      have HE := Lib.hid (HS.out.e0_4 (.int .i64 0) (.int .i64 0) (.int .i64 0) (.slice none 0 0)).1
      clear HV hv HS hn
      go_wp2
      exact bodyPost_ret (v := .tuple #[.agg #[.int .i64 0, .int .i64 0, .int .i64 0, .slice none 0 0], .bool false]) (by simp [results, Try.results16, go_sem, r0, r1, r2, r3]) rfl ⟨_, by rw [HF.out]; rfl, by rw [HF.out]; exact World.ownsRow_nil _ _ _ _, HE.out⟩
end Go.Proofs.Ytebfaomlljekiaa
