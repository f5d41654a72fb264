/- Whatever the code: ColorImage of the drawn indices and colors answers what the model answers, and where there is an image, indexing it and coloring it again gives the image. -/
import Derived.Test.YtjcohmljpokgcaaRows
import Derived.WalkKit
import Derived.ProofKit
import Derived.OpenShut
import Derived.ShutString
import Derived.ChangeOld
import Derived.Below
import Derived.Test.YtjcohmljpokgcaaCoiL
import Derived.Test.YtjcohmljpokgcaaMgC
import Derived.Test.YtjcohmljpokgcaaIxI
import Derived.Test.YtjcohmljpokgcaaMgD
import Derived.Test.YtjcohmljpokgcaaLSt
import Derived.Test.YtjcohmljpokgcaaOkJ
namespace Go.Proofs.Ytjcohmljpokgcaa.fnColorImage
open Go.ChangeShapes Go.WideShapes Go.ChangeAt Go.RowKit
open Go.ChangeMaps (open_string shut_string)
set_option linter.unusedVariables false

set_option linter.unusedSimpArgs false
set_option maxRecDepth 20000
/-- ColorImage's contract, its answer in letters. -/
def CCx (f : FuncId) (W H P a : Int) (xs : List Int) (xss : List (List Int)) (X Y Z : Int) (ys : List Int) (ok : Bool) : Prop :=
  ∀ (A : Option Addr) (c : Nat) (A2 : Option Addr) (c2 : Nat) (u : World), Rds .i64 u u.heap.size A xs → xs.length ≤ c → Rdss u u.heap.size A2 xss → Calls Try.prog f #[.agg #[.int .i64 W, .int .i64 H, .int .i64 P, .slice A xs.length c], .slice A2 xss.length c2, .int .i64 a] u fun e w' => ∃ (A3 : Option Addr) (c3 : Nat), e = .returned (.tuple #[.agg #[.int .i64 X, .int .i64 Y, .int .i64 Z, .slice A3 ys.length c3], .bool ok]) ∧ ys.length ≤ c3 ∧ Rds .i64 w' w'.heap.size A3 ys ∧ Below u.heap.size u w'
def ICx (f : FuncId) (W H P : Int) (xs : List Int) (xss : List (List Int)) (X Y Z : Int) (ys : List Int) : Prop :=
  ∀ (A : Option Addr) (c : Nat) (A2 : Option Addr) (c2 : Nat) (u : World), Rds .i64 u u.heap.size A xs → xs.length ≤ c → Rdss u u.heap.size A2 xss → Calls Try.prog f #[.agg #[.int .i64 W, .int .i64 H, .int .i64 P, .slice A xs.length c], .slice A2 xss.length c2] u fun e w' => ∃ (A3 : Option Addr) (c3 : Nat), e = .returned (.tuple #[.agg #[.int .i64 X, .int .i64 Y, .int .i64 Z, .slice A3 ys.length c3], .bool true]) ∧ ys.length ≤ c3 ∧ Rds .i64 w' w'.heap.size A3 ys ∧ Below u.heap.size u w'
theorem colr_x {f : FuncId} {a : Array Value} {ok : Bool} {W H P : Int} {ys : List Int} {u : World} (h : Calls Try.prog f a u (ColR ok W H P ys u)) : Calls Try.prog f a u fun e w' => ∃ (A3 : Option Addr) (c3 : Nat), e = .returned (.tuple #[.agg #[.int .i64 (cond ok W 0), .int .i64 (cond ok H 0), .int .i64 (cond ok P 0), .slice A3 (cond ok ys []).length c3], .bool ok]) ∧ (cond ok ys []).length ≤ c3 ∧ Rds .i64 w' w'.heap.size A3 (cond ok ys []) ∧ Below u.heap.size u w' :=
  h.mono fun e w' ⟨v, he, hO, hB⟩ => by
    obtain ⟨A3, c3, rfl, hc3⟩ := hO.slice
    exact ⟨A3, c3, he, hc3, hO.rds.2, hB⟩
theorem coi_use (W H P a : Int) (xs : List Int) (xss : List (List Int)) (hl : xs.length ≤ 256) (ht : tot xss ≤ 2000000) : ∃ (X Y Z : Int) (ys : List Int) (ok : Bool), Hid (CCx 7 W H P a xs xss X Y Z ys ok) ∧ Hid (CCx 8 W H P a xs xss X Y Z ys ok) ∧ ys.length ≤ 2000 ∧
    (ok = false ∨ (ok = true ∧ Z = a ∧ ∃ zs : List Int, zs.length ≤ 2000 ∧ Hid (ICx 10 X Y Z ys xss X Y 1 zs) ∧ Hid (CCx 7 X Y 1 a zs xss X Y Z ys true))) := by
  have h1 : CCx 7 W H P a xs xss (cond (ciOk W H P xs xss a) W 0) (cond (ciOk W H P xs xss a) H 0) (cond (ciOk W H P xs xss a) a 0) (cond (ciOk W H P xs xss a) (ciL W.toNat H.toNat a.toNat xs xss) []) (ciOk W H P xs xss a) := fun A c A2 c2 u k1 k2 k3 => colr_x (i_ColorImage W H P a A c xs A2 _ c2 xss u k1 (by omega) k2 k3 rfl ht)
  have h2 : CCx 8 W H P a xs xss (cond (ciOk W H P xs xss a) W 0) (cond (ciOk W H P xs xss a) H 0) (cond (ciOk W H P xs xss a) a 0) (cond (ciOk W H P xs xss a) (ciL W.toNat H.toNat a.toNat xs xss) []) (ciOk W H P xs xss a) := fun A c A2 c2 u k1 k2 k3 => colr_x (s_ColorImage W H P a A c xs A2 _ c2 xss u k1 (by omega) k2 k3 rfl ht)
  cases hk : ciOk W H P xs xss a
  · rw [hk] at h1 h2
    exact ⟨_, _, _, _, _, Lib.hid h1, Lib.hid h2, by simp, .inl rfl⟩
  · rw [hk] at h1 h2
    obtain ⟨w, h, p, rfl, rfl, rfl, ⟨_, hw⟩, ⟨_, hh⟩, ⟨hp1, hp⟩, hix, hci, hcl⟩ := coi_law hk
    have hwh : w * h ≤ 256 := by have := Nat.mul_le_mul hw hh; omega
    have hyl : (ciL w h p xs xss).length ≤ 2000 := by unfold ciL; rw [img_len]; have := Nat.mul_le_mul hwh hp; omega
    have hzl : (ixL w h p (ciL w h p xs xss) xss).length ≤ 2000 := by unfold ixL; rw [img_len, Nat.mul_one]; omega
    refine ⟨_, _, _, _, _, Lib.hid h1, Lib.hid h2, hyl, .inr ⟨rfl, rfl, ixL w h p (ciL w h p xs xss) xss, hzl, Lib.hid (fun A c A2 c2 u k1 k2 k3 => ?_), Lib.hid (fun A c A2 c2 u k1 k2 k3 => ?_)⟩⟩
    · have h4 := colr_x (i_IndexImage w h p A c (ciL w h p xs xss) A2 _ c2 xss u k1 (by omega) k2 k3 rfl ht)
      rw [hix] at h4
      exact h4
    · have h4 := colr_x (i_ColorImage w h 1 p A c (ixL w h p (ciL w h p xs xss) xss) A2 _ c2 xss u k1 (by omega) k2 k3 rfl ht)
      rw [hci, show ciL (w : Int).toNat (h : Int).toNat (p : Int).toNat (ixL w h p (ciL w h p xs xss) xss) xss = ciL w h p xs xss from hcl] at h4
      exact h4
set_option maxHeartbeats 16000000 in
theorem walk (w : World) (a0 : Option Addr) (cap0 : Nat) (z0 : List Int) (hc0 : z0.length ≤ cap0) (w0 : Rdw .u8 w w.heap.size a0 z0) :
    Calls Try.prog 3 #[.slice a0 z0.length cap0] w fun e w' => e = .returned (.bool true) ∧ Below w.heap.size w w' := by
  have hm := w0.2.1
  unfold maxLen at hm
  by_cases hlen : 1048576 < z0.length
  · go_enter Try.func3, Try.ntmps3
    go_wp2
    go_ret
    exact ⟨rfl, Below.refl _ _⟩
  · go_enter Try.func3, Try.ntmps3
    go_wp2_with fail
    refine (drawCo_any a0 cap0 z0 w hc0 w0).mono ?_
    rintro e u1 ⟨W, H, P, A, c, xs, A2, c2, xss, a, rfl, hx256, hxc, hcc2, hx2, hrow, hr, hrs, hbel⟩
    have htot : tot xss ≤ 2000000 := by have := tot_le hrow; omega
    obtain ⟨X, Y, Z, ys, ok, HI, HS, hyl, hor⟩ := coi_use W H P a xs xss hx256 htot
    have S1 : LSt u1 u1 [(A, xs)] [] := (LSt.start (Below.refl _ _)).add hr
    have HB1 := Lib.hid hbel
    have HRS := Lib.hid hrs
    clear w0 hr hrs hbel hm htot hrow hx2
    have S1001 : LSt u1 (u1.alloc (.cells #[.int .i64 W, .int .i64 H, .int .i64 P, .slice A xs.length c] 25)) [(A, xs)] [⟨u1.heap.size, 25, #[.int .i64 W, .int .i64 H, .int .i64 P, .slice A xs.length c]⟩] := LSt.box2 S1 25 #[.int .i64 W, .int .i64 H, .int .i64 P, .slice A xs.length c] u1.heap.size (by simp)
    go_wp2_with fail
    clear S1
    generalize u1.alloc (.cells #[.int .i64 W, .int .i64 H, .int .i64 P, .slice A xs.length c] 25) = u1002 at *
    refine (HI.out A c A2 c2 _ ((S1001).rds (A := A) (xs := xs) (by simp)) hxc ((HRS.out.below S1001.1).more S1001.1.size)).mono ?_
    rintro e u1003 ⟨A1003, c1003, rfl, hc1003, hr1003, hB1003⟩
    have S1003 := (S1001.call hB1003).add hr1003
    clear hr1003 hB1003 S1001
    have Fmx := S1003.2.2 ⟨u1.heap.size, 25, #[.int .i64 W, .int .i64 H, .int .i64 P, .slice A xs.length c]⟩ (by simp)
    have ml : u1.heap.size < u1003.heap.size := Fmx.lt
    have m0 : u1003.cell? ⟨u1.heap.size, 0, none⟩ = some (.int .i64 W) := cell_of_row _ _ 0 _ _ _ Fmx
    have m1 : u1003.cell? ⟨u1.heap.size, 1, none⟩ = some (.int .i64 H) := cell_of_row _ _ 1 _ _ _ Fmx
    have m2 : u1003.cell? ⟨u1.heap.size, 2, none⟩ = some (.int .i64 P) := cell_of_row _ _ 2 _ _ _ Fmx
    have m3 : u1003.cell? ⟨u1.heap.size, 3, none⟩ = some (.slice A xs.length c) := cell_of_row _ _ 3 _ _ _ Fmx
    clear Fmx
    have S1004 : LSt u1 (u1003.alloc (.cells #[.int .i64 X, .int .i64 Y, .int .i64 Z, .slice A1003 ys.length c1003] 25)) [(A1003, ys), (A, xs)] [⟨u1003.heap.size, 25, #[.int .i64 X, .int .i64 Y, .int .i64 Z, .slice A1003 ys.length c1003]⟩, ⟨u1.heap.size, 25, #[.int .i64 W, .int .i64 H, .int .i64 P, .slice A xs.length c]⟩] := LSt.box2 S1003 25 #[.int .i64 X, .int .i64 Y, .int .i64 Z, .slice A1003 ys.length c1003] u1003.heap.size (by simp)
    go_wp2_with fail
    clear ml m0 m1 m2 m3
    clear S1003
    generalize u1003.alloc (.cells #[.int .i64 X, .int .i64 Y, .int .i64 Z, .slice A1003 ys.length c1003] 25) = u1005 at *
    refine (HS.out A c A2 c2 _ ((S1004).rds (A := A) (xs := xs) (by simp)) hxc ((HRS.out.below S1004.1).more S1004.1.size)).mono ?_
    rintro e u1006 ⟨A1006, c1006, rfl, hc1006, hr1006, hB1006⟩
    have S1006 := (S1004.call hB1006).add hr1006
    clear hr1006 hB1006 S1004
    have Fox := S1006.2.2 ⟨u1003.heap.size, 25, #[.int .i64 X, .int .i64 Y, .int .i64 Z, .slice A1003 ys.length c1003]⟩ (by simp)
    have ol : u1003.heap.size < u1006.heap.size := Fox.lt
    have o0 : u1006.cell? ⟨u1003.heap.size, 0, none⟩ = some (.int .i64 X) := cell_of_row _ _ 0 _ _ _ Fox
    have o1 : u1006.cell? ⟨u1003.heap.size, 1, none⟩ = some (.int .i64 Y) := cell_of_row _ _ 1 _ _ _ Fox
    have o2 : u1006.cell? ⟨u1003.heap.size, 2, none⟩ = some (.int .i64 Z) := cell_of_row _ _ 2 _ _ _ Fox
    have o3 : u1006.cell? ⟨u1003.heap.size, 3, none⟩ = some (.slice A1003 ys.length c1003) := cell_of_row _ _ 3 _ _ _ Fox
    clear Fox
    have S1007 : LSt u1 (u1006.alloc (.cells #[.int .i64 X, .int .i64 Y, .int .i64 Z, .slice A1006 ys.length c1006] 25)) [(A1006, ys), (A1003, ys), (A, xs)] [⟨u1006.heap.size, 25, #[.int .i64 X, .int .i64 Y, .int .i64 Z, .slice A1006 ys.length c1006]⟩, ⟨u1003.heap.size, 25, #[.int .i64 X, .int .i64 Y, .int .i64 Z, .slice A1003 ys.length c1003]⟩, ⟨u1.heap.size, 25, #[.int .i64 W, .int .i64 H, .int .i64 P, .slice A xs.length c]⟩] := LSt.box2 S1006 25 #[.int .i64 X, .int .i64 Y, .int .i64 Z, .slice A1006 ys.length c1006] u1006.heap.size (by simp)
    go_wp2_with fail
    clear ol o0 o1 o2 o3
    clear S1006
    generalize u1006.alloc (.cells #[.int .i64 X, .int .i64 Y, .int .i64 Z, .slice A1006 ys.length c1006] 25) = u1008 at *
    refine (lEqIm X Y Z ys A1003 A1006 c1003 c1006 _ ((S1007).rds (A := A1003) (xs := ys) (by simp)) ((S1007).rds (A := A1006) (xs := ys) (by simp)) (by omega)).mono ?_
    rintro e u1009 ⟨rfl, hB1009⟩
    have S1009 := S1007.call hB1009
    clear hB1009 S1007
    rcases hor with rfl | ⟨rfl, rfl, zs, hzs, HIX, HCI⟩
    · skip
      have Fox := S1009.2.2 ⟨u1003.heap.size, 25, #[.int .i64 X, .int .i64 Y, .int .i64 Z, .slice A1003 ys.length c1003]⟩ (by simp)
      have ol : u1003.heap.size < u1009.heap.size := Fox.lt
      have o0 : u1009.cell? ⟨u1003.heap.size, 0, none⟩ = some (.int .i64 X) := cell_of_row _ _ 0 _ _ _ Fox
      have o1 : u1009.cell? ⟨u1003.heap.size, 1, none⟩ = some (.int .i64 Y) := cell_of_row _ _ 1 _ _ _ Fox
      have o2 : u1009.cell? ⟨u1003.heap.size, 2, none⟩ = some (.int .i64 Z) := cell_of_row _ _ 2 _ _ _ Fox
      have o3 : u1009.cell? ⟨u1003.heap.size, 3, none⟩ = some (.slice A1003 ys.length c1003) := cell_of_row _ _ 3 _ _ _ Fox
      clear Fox
      have Fjx := S1009.2.2 ⟨u1006.heap.size, 25, #[.int .i64 X, .int .i64 Y, .int .i64 Z, .slice A1006 ys.length c1006]⟩ (by simp)
      have jl : u1006.heap.size < u1009.heap.size := Fjx.lt
      have j0 : u1009.cell? ⟨u1006.heap.size, 0, none⟩ = some (.int .i64 X) := cell_of_row _ _ 0 _ _ _ Fjx
      have j1 : u1009.cell? ⟨u1006.heap.size, 1, none⟩ = some (.int .i64 Y) := cell_of_row _ _ 1 _ _ _ Fjx
      have j2 : u1009.cell? ⟨u1006.heap.size, 2, none⟩ = some (.int .i64 Z) := cell_of_row _ _ 2 _ _ _ Fjx
      have j3 : u1009.cell? ⟨u1006.heap.size, 3, none⟩ = some (.slice A1006 ys.length c1006) := cell_of_row _ _ 3 _ _ _ Fjx
      clear Fjx
      go_wp2_with fail
      refine (lEqIm X Y Z ys A1003 A1006 c1003 c1006 _ ((S1009).rds (A := A1003) (xs := ys) (by simp)) ((S1009).rds (A := A1006) (xs := ys) (by simp)) (by omega)).mono ?_
      rintro e u1010 ⟨rfl, hB1010⟩
      have S1010 := S1009.call hB1010
      clear ol o0 o1 o2 o3
      clear jl j0 j1 j2 j3
      clear hB1010 S1009
      go_wp2
      go_ret
      exact ⟨rfl, HB1.out.trans (S1010.1.mono HB1.out.size)⟩
    · skip
      have Fox := S1009.2.2 ⟨u1003.heap.size, 25, #[.int .i64 X, .int .i64 Y, .int .i64 Z, .slice A1003 ys.length c1003]⟩ (by simp)
      have ol : u1003.heap.size < u1009.heap.size := Fox.lt
      have o0 : u1009.cell? ⟨u1003.heap.size, 0, none⟩ = some (.int .i64 X) := cell_of_row _ _ 0 _ _ _ Fox
      have o1 : u1009.cell? ⟨u1003.heap.size, 1, none⟩ = some (.int .i64 Y) := cell_of_row _ _ 1 _ _ _ Fox
      have o2 : u1009.cell? ⟨u1003.heap.size, 2, none⟩ = some (.int .i64 Z) := cell_of_row _ _ 2 _ _ _ Fox
      have o3 : u1009.cell? ⟨u1003.heap.size, 3, none⟩ = some (.slice A1003 ys.length c1003) := cell_of_row _ _ 3 _ _ _ Fox
      clear Fox
      go_wp2_with fail
      refine (HIX.out A1003 c1003 A2 c2 _ ((S1009).rds (A := A1003) (xs := ys) (by simp)) hc1003 ((HRS.out.below S1009.1).more S1009.1.size)).mono ?_
      rintro e u1010 ⟨A1010, c1010, rfl, hc1010, hr1010, hB1010⟩
      have S1010 := (S1009.call hB1010).add hr1010
      clear ol o0 o1 o2 o3
      clear hr1010 hB1010 S1009
      have Fox := S1010.2.2 ⟨u1003.heap.size, 25, #[.int .i64 X, .int .i64 Y, .int .i64 Z, .slice A1003 ys.length c1003]⟩ (by simp)
      have ol : u1003.heap.size < u1010.heap.size := Fox.lt
      have o0 : u1010.cell? ⟨u1003.heap.size, 0, none⟩ = some (.int .i64 X) := cell_of_row _ _ 0 _ _ _ Fox
      have o1 : u1010.cell? ⟨u1003.heap.size, 1, none⟩ = some (.int .i64 Y) := cell_of_row _ _ 1 _ _ _ Fox
      have o2 : u1010.cell? ⟨u1003.heap.size, 2, none⟩ = some (.int .i64 Z) := cell_of_row _ _ 2 _ _ _ Fox
      have o3 : u1010.cell? ⟨u1003.heap.size, 3, none⟩ = some (.slice A1003 ys.length c1003) := cell_of_row _ _ 3 _ _ _ Fox
      clear Fox
      have S1011 : LSt u1 (u1010.alloc (.cells #[.int .i64 X, .int .i64 Y, .int .i64 1, .slice A1010 zs.length c1010] 25)) [(A1010, zs), (A1006, ys), (A1003, ys), (A, xs)] [⟨u1010.heap.size, 25, #[.int .i64 X, .int .i64 Y, .int .i64 1, .slice A1010 zs.length c1010]⟩, ⟨u1006.heap.size, 25, #[.int .i64 X, .int .i64 Y, .int .i64 Z, .slice A1006 ys.length c1006]⟩, ⟨u1003.heap.size, 25, #[.int .i64 X, .int .i64 Y, .int .i64 Z, .slice A1003 ys.length c1003]⟩, ⟨u1.heap.size, 25, #[.int .i64 W, .int .i64 H, .int .i64 P, .slice A xs.length c]⟩] := LSt.box2 S1010 25 #[.int .i64 X, .int .i64 Y, .int .i64 1, .slice A1010 zs.length c1010] u1010.heap.size (by simp)
      go_wp2_with fail
      clear ol o0 o1 o2 o3
      clear S1010
      generalize u1010.alloc (.cells #[.int .i64 X, .int .i64 Y, .int .i64 1, .slice A1010 zs.length c1010] 25) = u1012 at *
      refine (HCI.out A1010 c1010 A2 c2 _ ((S1011).rds (A := A1010) (xs := zs) (by simp)) hc1010 ((HRS.out.below S1011.1).more S1011.1.size)).mono ?_
      rintro e u1013 ⟨A1013, c1013, rfl, hc1013, hr1013, hB1013⟩
      have S1013 := (S1011.call hB1013).add hr1013
      clear hr1013 hB1013 S1011
      have Fox := S1013.2.2 ⟨u1003.heap.size, 25, #[.int .i64 X, .int .i64 Y, .int .i64 Z, .slice A1003 ys.length c1003]⟩ (by simp)
      have ol : u1003.heap.size < u1013.heap.size := Fox.lt
      have o0 : u1013.cell? ⟨u1003.heap.size, 0, none⟩ = some (.int .i64 X) := cell_of_row _ _ 0 _ _ _ Fox
      have o1 : u1013.cell? ⟨u1003.heap.size, 1, none⟩ = some (.int .i64 Y) := cell_of_row _ _ 1 _ _ _ Fox
      have o2 : u1013.cell? ⟨u1003.heap.size, 2, none⟩ = some (.int .i64 Z) := cell_of_row _ _ 2 _ _ _ Fox
      have o3 : u1013.cell? ⟨u1003.heap.size, 3, none⟩ = some (.slice A1003 ys.length c1003) := cell_of_row _ _ 3 _ _ _ Fox
      clear Fox
      have S1014 : LSt u1 (u1013.alloc (.cells #[.int .i64 X, .int .i64 Y, .int .i64 Z, .slice A1013 ys.length c1013] 25)) [(A1013, ys), (A1010, zs), (A1006, ys), (A1003, ys), (A, xs)] [⟨u1013.heap.size, 25, #[.int .i64 X, .int .i64 Y, .int .i64 Z, .slice A1013 ys.length c1013]⟩, ⟨u1010.heap.size, 25, #[.int .i64 X, .int .i64 Y, .int .i64 1, .slice A1010 zs.length c1010]⟩, ⟨u1006.heap.size, 25, #[.int .i64 X, .int .i64 Y, .int .i64 Z, .slice A1006 ys.length c1006]⟩, ⟨u1003.heap.size, 25, #[.int .i64 X, .int .i64 Y, .int .i64 Z, .slice A1003 ys.length c1003]⟩, ⟨u1.heap.size, 25, #[.int .i64 W, .int .i64 H, .int .i64 P, .slice A xs.length c]⟩] := LSt.box2 S1013 25 #[.int .i64 X, .int .i64 Y, .int .i64 Z, .slice A1013 ys.length c1013] u1013.heap.size (by simp)
      go_wp2_with fail
      clear ol o0 o1 o2 o3
      clear S1013
      generalize u1013.alloc (.cells #[.int .i64 X, .int .i64 Y, .int .i64 Z, .slice A1013 ys.length c1013] 25) = u1015 at *
      refine (lEqIm X Y Z ys A1013 A1003 c1013 c1003 _ ((S1014).rds (A := A1013) (xs := ys) (by simp)) ((S1014).rds (A := A1003) (xs := ys) (by simp)) (by omega)).mono ?_
      rintro e u1016 ⟨rfl, hB1016⟩
      have S1016 := S1014.call hB1016
      clear hB1016 S1014
      have Fox := S1016.2.2 ⟨u1003.heap.size, 25, #[.int .i64 X, .int .i64 Y, .int .i64 Z, .slice A1003 ys.length c1003]⟩ (by simp)
      have ol : u1003.heap.size < u1016.heap.size := Fox.lt
      have o0 : u1016.cell? ⟨u1003.heap.size, 0, none⟩ = some (.int .i64 X) := cell_of_row _ _ 0 _ _ _ Fox
      have o1 : u1016.cell? ⟨u1003.heap.size, 1, none⟩ = some (.int .i64 Y) := cell_of_row _ _ 1 _ _ _ Fox
      have o2 : u1016.cell? ⟨u1003.heap.size, 2, none⟩ = some (.int .i64 Z) := cell_of_row _ _ 2 _ _ _ Fox
      have o3 : u1016.cell? ⟨u1003.heap.size, 3, none⟩ = some (.slice A1003 ys.length c1003) := cell_of_row _ _ 3 _ _ _ Fox
      clear Fox
      go_wp2
      go_ret
      exact ⟨rfl, HB1.out.trans (S1016.1.mono HB1.out.size)⟩

/-! ### From the walk to the statement. -/
theorem own : ownKnob Try.prog.godebug = none := by kernel_rfl
theorem laidOut : laidOutB Try.prog = true := by kernel_rfl
set_option maxRecDepth 100000 in
theorem lifted (os : Os) (started : os.Started) (H : Type) (enc : TypeId × Value → H) :
    ReturnsInHanded {} Try.checked os 3 .any (Rows.fnColorImageSpec.pre6 enc Try.prog Try.f3 Rows.fnColorImageRow.domain false) (Rows.fnColorImageSpec.post enc Try.prog Try.f3 false true false false) := by
  refine returnsInHanded_of_change (C := Try.checked) own started (by kernel_rfl) Try.func3
    (ChangeSpec.witness6 (enc := enc) (C := Try.checked) false ⟨#[], #[.slice none 0 0], []⟩ 8 (by kernel_rfl) (by kernel_rfl) (by kernel_rfl) (by kernel_rfl)) ?_
  intro W base args ds gs before hval0 hW hcnd _
  have hval : ∀ (j : Nat) t v, Try.f3.params[j]? = some t → args[j]? = some v → Value.okWide Try.prog W .any base t v := hval0
  have hW' := hW
  obtain ⟨p, q, hA0, hV, rfl, hfz, hnd⟩ := hW
  have hA : DataW.TrodAll enc Try.prog W 0 (fun _ => true) true Try.f3.params.toList args.toList ds p := hA0
  rw [Try.params3] at hA hval
  obtain ⟨v0, vs0, d0, ds0, p0, q0, hargs, rfl, rfl, h0, r0⟩ := trodAll_cons hA
  obtain ⟨rfl, rfl, rfl⟩ := trodAll_nil r0
  obtain rfl : args = #[v0] := by cases args; simp_all
  obtain ⟨rfl, rfl⟩ := trodVars_none hV
  obtain ⟨a0, len0, cap0, rfl⟩ := okWide_slice Try.underlying22 (hval 0 22 v0 rfl rfl)
  have k0 := h0
  have lt0 : ∀ x ∈ p0, x.block < W.heap.size := by obtain ⟨m, hm⟩ := k0; exact DataW.trod_lt m _ _ _ hm
  obtain ⟨z0, hl0, hc0, w0⟩ : ∃ zs : List Int, len0 = zs.length ∧ zs.length ≤ cap0 ∧ Rdw .u8 W W.heap.size a0 zs := by
    obtain ⟨fuel, hf⟩ := h0
    rcases open_ints Try.underlying22 Try.underlying5 (by kernel_rfl) hf with ⟨hcs, _⟩ | ⟨x, l, c, zs, hcs, _, hl, hm, hz, _, hcell, hwz⟩
    · simp [Value.cells] at hcs
      obtain ⟨rfl, rfl, rfl⟩ := hcs
      exact ⟨[], rfl, Nat.le_refl _, Rdw.nil⟩
    · simp [Value.cells] at hcs
      obtain ⟨rfl, rfl, rfl⟩ := hcs
      exact ⟨zs.take len0, by simp at hz ⊢; omega, by simp at hz ⊢; omega, Rdw.of_row hl hm (by simpa using hz) hcell hwz⟩
  subst hl0
  clear hA0 hval0
  refine (walk W a0 cap0 z0 hc0 w0).mono fun e W' ⟨he, bel⟩ => ?_
  subst he
  exact ⟨_, rfl, _, _, _, [], _, [], hW', trodAll_mk1 (shut_bool Try.underlying4 _), (trodAll_cons_mk (Below.trod laidOut (by kernel_rfl) (of_decide_eq_true (by kernel_rfl)) k0 bel lt0) trodAll_mk0), rfl, bel.frame _, fun h => by cases h⟩

theorem over : Rows.fnColorImageRow.holds Try.pinned (OpenSpec.ofChange Rows.fnColorImageSpec) :=
  OpenClaim.holds_of_wide 3 Try.f3 rfl rfl rfl rfl rfl rfl rfl ⟨rfl, rfl, rfl, rfl, rfl⟩ rfl rfl rfl rfl rfl (by kernel_rfl) Try.func3 (by kernel_rfl)
    (of_decide_eq_true (by kernel_rfl)) (by unfold Func.isWrapper; first | (rw [if_pos (by decide +kernel)]; kernel_rfl) | (rw [if_neg (by decide +kernel)]; exact ⟨rfl, rfl⟩))
    (fun os started H enc _ => lifted os started H enc)

theorem proved : Rows.FnColorImageSaid := over
end Go.Proofs.Ytjcohmljpokgcaa.fnColorImage
