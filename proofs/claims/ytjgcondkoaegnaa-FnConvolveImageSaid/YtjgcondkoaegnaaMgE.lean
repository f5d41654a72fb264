/- Scale, ScaI, ScaJ, ScaP, ScaQ, CvlI, LumM, CvlS: one text of several. -/
import Derived.Test.YtjgcondkoaegnaaGenP
import Derived.Test.YtjgcondkoaegnaaGridF
import Derived.Test.YtjgcondkoaegnaaSpecP
import Derived.Test.YtjgcondkoaegnaaSpecM
import Derived.Deep.RegionHeld3
import Derived.Test.YtjgcondkoaegnaaGridJ
import Derived.Test.YtjgcondkoaegnaaScaM
import Derived.Test.YtjgcondkoaegnaaDiv
import Derived.Test.YtjgcondkoaegnaaGridC
import Derived.Test.YtjgcondkoaegnaaInvI
import Derived.Test.YtjgcondkoaegnaaCvlM
import Derived.Test.YtjgcondkoaegnaaKnl
import Derived.Test.YtjgcondkoaegnaaLists
import Derived.Test.YtjgcondkoaegnaaImgB
import Derived.Deep.CutRange
import Derived.Deep.Cut
namespace Go.Proofs.Ytjgcondkoaegnaa
open Go.RowKit Go.Shelf
set_option linter.unusedSimpArgs false
set_option linter.unusedVariables false
set_option maxRecDepth 20000

def scOk (W H P : Int) (xs : List Int) (w h : Int) : Bool := vim W H P xs && vsh w h P
def scaL (W H P : Nat) (xs : List Int) (w h : Nat) : List Int := img w h P (fun x y => pxc W P xs (x * W / w) (y * H / h))
theorem vsh_nat {W H P : Int} (h : vsh W H P = true) : ∃ w h p : Nat, W = w ∧ H = h ∧ P = p ∧ (1 ≤ w ∧ w ≤ 16) ∧ (1 ≤ h ∧ h ≤ 16) ∧ 1 ≤ p ∧ p ≤ 4 := by
  obtain ⟨h1, h2, h3, _⟩ := vsh_bd h
  exact ⟨W.toNat, H.toNat, P.toNat, by omega, by omega, by omega, by omega, by omega, by omega⟩
theorem sc_lt {x W w : Nat} (hx : x < w) (hW : 1 ≤ W) : x * W / w < W := by
  rw [Nat.div_lt_iff_lt_mul (by omega)]
  rw [Nat.mul_comm W w]
  exact Nat.mul_lt_mul_of_pos_right hx (by omega)
theorem sc_bd {x W : Nat} (hx : x ≤ 16) (hW : W ≤ 16) : x * W ≤ 256 := by have := Nat.mul_le_mul hx hW; omega
end Go.Proofs.Ytjgcondkoaegnaa
namespace Go.Proofs.Ytjgcondkoaegnaa
open Go.RowKit Go.Shelf
set_option linter.unusedSimpArgs false
set_option linter.unusedVariables false
set_option maxRecDepth 20000

end Go.Proofs.Ytjgcondkoaegnaa
namespace Go.Proofs.Ytjgcondkoaegnaa
open Go.RowKit Go.Shelf
set_option linter.unusedSimpArgs false
set_option linter.unusedVariables false
set_option maxRecDepth 20000

def arN (W H a b : Nat) (f : Nat → Nat → Int) (x y : Nat) : Int := mnA (saF W H a b f x y) (W * H)
end Go.Proofs.Ytjgcondkoaegnaa
namespace Go.Proofs.Ytjgcondkoaegnaa
open Go.RowKit Go.Shelf
set_option linter.unusedSimpArgs false
set_option linter.unusedVariables false
set_option maxRecDepth 20000

set_option maxHeartbeats 4000000 in
theorem iPl1_any (W H P p : Nat) (hW : W ≤ 16) (hH : H ≤ 16) (hP : P ≤ 4) (hp : p < P) (A : Option Addr) (c : Nat) (xs : List Int) (hl : xs.length = W * H * P) (x y : Nat) (hx : x < W) (hy : y < H) (pm pp : Nat) (w : World) (hr : Rds .i64 w w.heap.size A xs)
    (h1 : Bx w pm 29 #[.int .i64 (W : Int), .int .i64 (H : Int), .int .i64 (P : Int), .slice A xs.length c]) (h2 : Bx w pp 3 #[.int .i64 (p : Int)]) :
    Calls Try.prog 76 (#[.int .i64 (x : Int), .int .i64 (y : Int)] ++ #[.pointer (some ⟨pm, 0, none⟩), .pointer (some ⟨pp, 0, none⟩)]) w fun e w' => e = .returned (.int .i64 (px W P xs x y p)) ∧ Below w.heap.size w w' := by
  obtain ⟨m0, m1, m2, m3⟩ := bx4 h1
  have p0 := bx1 h2
  have hlt := row_lt hx hy
  have hWH : W * H ≤ 256 := by have := Nat.mul_le_mul hW hH; omega
  obtain ⟨q1, e1⟩ : ∃ q, q = y * W := ⟨_, rfl⟩
  obtain ⟨q2, e2⟩ : ∃ q, q = q1 + x := ⟨_, rfl⟩
  obtain ⟨q3, e3⟩ : ∃ q, q = q2 * P := ⟨_, rfl⟩
  obtain ⟨k, e4⟩ : ∃ k, k = q3 + p := ⟨_, rfl⟩
  have hq2 : q2 < W * H := by rw [e2, e1]; exact hlt
  have hk : k < xs.length := by
    rw [hl, e4, e3]
    have := Nat.mul_le_mul_right P (show q2 + 1 ≤ W * H from hq2)
    rw [Nat.add_mul, Nat.one_mul] at this
    omega
  have hx1024 : xs.length ≤ 1024 := by rw [hl]; have := Nat.mul_le_mul hWH hP; omega
  obtain ⟨b, off, rfl, hb, hcc⟩ := hr.cells_ hk
  have hck := hcc k hk
  have ep : px W P xs x y p = xs.getD k 0 := by unfold px pix; rw [e4, e3, e2, e1]
  rw [ep]
  have i1 : (y : Int) * (W : Int) = (q1 : Int) := by rw [e1]; simp
  have i2 : (q1 : Int) + (x : Int) = (q2 : Int) := by rw [e2]; simp
  have i3 : (q2 : Int) * (P : Int) = (q3 : Int) := by rw [e3]; simp
  have i4 : (q3 : Int) + (p : Int) = (k : Int) := by rw [e4]; simp
  have b1 : q1 ≤ 2000 := by omega
  have b3 : q3 ≤ 2000 := by omega
  have w1 : IntKind.i64.wrap (q1 : Int) = (q1 : Int) := IntWalk.i64_in _ (by omega)
  have w2 : IntKind.i64.wrap (q2 : Int) = (q2 : Int) := IntWalk.i64_in _ (by omega)
  have w3 : IntKind.i64.wrap (q3 : Int) = (q3 : Int) := IntWalk.i64_in _ (by omega)
  have w4 : IntKind.i64.wrap (k : Int) = (k : Int) := IntWalk.i64_in _ (by omega)
  have hkI : (k : Int) < (xs.length : Int) := by omega
  generalize xs.getD k 0 = z at *
  clear hcc hr e1 e2 e3 e4 hq2 ep h1 h2 hlt
  show Calls Try.prog 76 #[.int .i64 (x : Int), .int .i64 (y : Int), .pointer (some ⟨pm, 0, none⟩), .pointer (some ⟨pp, 0, none⟩)] w _
  go_enter Try.func76, Try.ntmps76
  go_wp2
  go_ret
  exact ⟨rfl, Below.refl _ _⟩
set_option maxHeartbeats 4000000 in
theorem iPlane_any (W H P p : Nat) (hW : W ≤ 16) (hH : H ≤ 16) (hP : P ≤ 4) (hp : p < P) (A : Option Addr) (c : Nat) (xs : List Int) (hl : xs.length = W * H * P) (w : World) (hr : Rds .i64 w w.heap.size A xs) :
    Calls Try.prog 64 #[.agg #[.int .i64 (W : Int), .int .i64 (H : Int), .int .i64 (P : Int), .slice A xs.length c], .int .i64 (p : Int)] w (GridI W H (fun x y => px W P xs x y p) w) := by
  have Hr := Lib.hid hr
  have Hl := Lib.hid hl
  have Eg : Hid (∀ args w, (callFunc 76 args).run Try.prog w = .ok (.enter 76 args) w) := Lib.hid (enters_of Try.func76 (by kernel_rfl) rfl)
  have S0 : GS w (((w.alloc (.cells #[.int .i64 (W : Int), .int .i64 (H : Int), .int .i64 (P : Int), .slice A xs.length c] 29)).alloc (.cells #[.int .i64 (p : Int)] 3)).alloc (.cells #[.int .i64 0, .int .i64 0, .slice none 0 0] 59)) [] [⟨w.heap.size + 2, 59, #[.int .i64 0, .int .i64 0, .slice none 0 0]⟩, ⟨w.heap.size + 1, 3, #[.int .i64 (p : Int)]⟩, ⟨w.heap.size, 29, #[.int .i64 (W : Int), .int .i64 (H : Int), .int .i64 (P : Int), .slice A xs.length c]⟩] :=
    GS.box' (GS.box' (GS.box' (GS.start w) _ _ w.heap.size (by simp)) _ _ (w.heap.size + 1) (by simp)) _ _ (w.heap.size + 2) (by simp)
  have HS := Lib.hid S0
  clear hr hl S0
  go_enter Try.func64, Try.ntmps64
  go_wp2_with fail
  generalize ((w.alloc (.cells #[.int .i64 (W : Int), .int .i64 (H : Int), .int .i64 (P : Int), .slice A xs.length c] 29)).alloc (.cells #[.int .i64 (p : Int)] 3)).alloc (.cells #[.int .i64 0, .int .i64 0, .slice none 0 0] 59) = u at *
  refine (buildN_any W H hW hH 76 #[.pointer (some ⟨w.heap.size, 0, none⟩), .pointer (some ⟨w.heap.size + 1, 0, none⟩)] (fun x y => px W P xs x y p) u Eg.out (fun x y w' hx hy hbel =>
    iPl1_any W H P p hW hH hP hp A c xs Hl.out x y hx hy w.heap.size (w.heap.size + 1) w' ((HS.out.call hbel).arg Hr.out) ((HS.out.call hbel).bx (by simp)) ((HS.out.call hbel).bx (by simp)))).mono ?_
  rintro e w2 ⟨v2, rfl, hO2, hB2⟩
  have S2 := HS.out.add hO2 hB2
  obtain ⟨A2, c2, rfl, _⟩ := hO2.slice
  obtain ⟨r0, r1, r2⟩ := S2.b0_3
  have f0 := S2.f0 0
  have f1 := S2.f0 1
  have f2 := S2.f0 2
  have HE := Lib.hid (S2.e0_3 (.int .i64 (W : Int)) (.int .i64 (H : Int)) (.slice A2 (img W H 1 (fun x y _ => px W P xs x y p)).length c2))
  clear S2 HS hO2 hB2 Hr Eg
  go_wp2
  exact bodyPost_ret (v := .agg #[.int .i64 (W : Int), .int .i64 (H : Int), .slice A2 (img W H 1 (fun x y _ => px W P xs x y p)).length c2]) (by simp [results, Try.results64, go_sem, r0, r1, r2]) rfl ⟨_, rfl, HE.out.2 _ (List.Mem.head _), HE.out.1⟩
theorem info_gridI : (Try.prog.info? 59).map (fun i => (i.zero, i.size, i.bytes)) = some (some (.agg #[.int .i64 0, .int .i64 0, .slice none 0 0]), 3, 40) := by kernel_rfl
theorem wpList_app3 {w : World} {ops : Array Oper} {rest : List Oper} {o : Oper} {a : Act} {Q : Exit → Act → World → Prop} (hgd : o.guard = none) (s x : Operand)
    (ho : o.op = .call { callee := .builtin .append, args := #[s, x], argTypes := #[88, 88] })
    (base : Nat) (v : Value) (n : Nat) (xs : List Value) (hs : a.eval s = v) (hown : w.ownsRow base 59 3 v n xs)
    (ad : Addr) (c : Nat) (u0 u1 u2 : Value) (hx : a.eval x = .slice (some ad) 1 c) (hnews : ∀ j u, [u0, u1, u2][j]? = some u → w.cell? (ad.add j) = some u) (h1 : ∀ u ∈ [u0, u1, u2], u.oneCell' = true) (hn : n ≤ 1000) (hbase : base ≤ w.heap.size)
    (h : ∀ v' w', w'.ownsRow base 59 3 v' (n + 1) (xs ++ [u0, u1, u2]) → w.grownBy w' v.ownBlock → (∀ g, v'.ownBlock = some g → v.ownBlock = some g ∨ w.heap.size ≤ g) → wpList Try.prog ops Q rest (a.put o.dst v') w') : wpList Try.prog ops Q (o :: rest) a w := by
  refine wpList_plain hgd fun _ hK => ?_
  obtain ⟨i, hi, hz, hsz, hb⟩ := info_parts info_gridI
  obtain ⟨v', w', hrun, h2, h3, h4⟩ := run_append_own (P := Try.prog) w base 88 o.type 59 i _ 3 40 Try.underlying88 hi hz hsz hb rfl (by omega) v n xs hown ad 1 c [u0, u1, u2] (by simp) hnews h1 (by unfold maxLen; omega) (by omega) hbase
  have hwh : ∀ g, v'.ownBlock = some g → v.ownBlock = some g ∨ w.heap.size ≤ g := by
    rcases hown.2 with ⟨rfl, h0⟩ | ⟨g0, cap, cur, rfl, hbg, hg, hnc, hcm, hcs, htake⟩
    · subst h0
      have hx0 : xs = [] := List.eq_nil_of_length_eq_zero (by simpa using hown.1)
      subst hx0
      obtain ⟨v2, w2, hr2, h22, _⟩ := run_append_own (P := Try.prog) w w.heap.size 88 o.type 59 i _ 3 40 Try.underlying88 hi hz hsz hb rfl (by omega) (.slice none 0 0) 0 [] (World.ownsRow_nil _ _ _ _) ad 1 c [u0, u1, u2] (by simp) hnews h1 (by unfold maxLen; omega) (by omega) (Nat.le_refl _)
      rw [hrun] at hr2
      injection hr2 with e1 e2
      subst e1
      intro g hg
      exact .inr (h22.lt g hg).1
    · intro g hg'
      by_cases hroom : n + 1 ≤ cap
      · have hr2 := run_append_room (P := Try.prog) w 88 o.type 59 i Try.underlying88 hi g0 n cap cur hg ad 1 c [u0, u1, u2] (by simp [hsz]) hnews h1 hroom (by rw [hsz, hcs]; simp; omega)
        rw [hrun] at hr2
        injection hr2 with e1 e2
        subst e1
        exact .inl hg'
      · have hr2 := run_append_grow (P := Try.prog) w 88 o.type 59 i _ Try.underlying88 hi hz ⟨g0, 0, none⟩ n cap xs (by rw [hsz]; exact hown.1) (World.ownsRow.cells hown (g := g0) rfl) ad 1 c [u0, u1, u2] (by simp [hsz]) hnews (by omega) (by omega) (growslice_fits (by omega) (by rw [hb]; omega))
        rw [hrun] at hr2
        injection hr2 with e1 e2
        subst e1
        right
        simp [Value.ownBlock] at hg'
        omega
  unfold Oper.wp execOp
  simp only [ho, resolve, invoke, builtin, Sem.run_bind, Sem.run_pure, Result.andThen_ok, List.map_toArray, List.map_cons, List.map_nil, hs, hx, hrun]
  exact hK _ _ (h v' w' h2 h3 hwh)
def plv (a b n : Nat) (As : Nat → Option Addr) (cs : Nat → Nat) : Nat → List Value
  | 0 => []
  | k + 1 => plv a b n As cs k ++ [.int .i64 (a : Int), .int .i64 (b : Int), .slice (As k) n (cs k)]
theorem plv_len (a b n : Nat) (As : Nat → Option Addr) (cs : Nat → Nat) : ∀ k, (plv a b n As cs k).length = k * 3
  | 0 => rfl
  | k + 1 => by show (plv a b n As cs k ++ _).length = _; rw [List.length_append, plv_len a b n As cs k]; simp; omega
theorem plv_get (a b n : Nat) (As : Nat → Option Addr) (cs : Nat → Nat) (i : Nat) : ∀ k, i < k → (plv a b n As cs k)[i * 3]? = some (.int .i64 (a : Int)) ∧ (plv a b n As cs k)[i * 3 + 1]? = some (.int .i64 (b : Int)) ∧ (plv a b n As cs k)[i * 3 + 2]? = some (.slice (As i) n (cs i))
  | 0, h => by omega
  | k + 1, h => by
    have hl := plv_len a b n As cs k
    show (plv a b n As cs k ++ [.int .i64 (a : Int), .int .i64 (b : Int), .slice (As k) n (cs k)])[i * 3]? = _ ∧ (plv a b n As cs k ++ [.int .i64 (a : Int), .int .i64 (b : Int), .slice (As k) n (cs k)])[i * 3 + 1]? = _ ∧ (plv a b n As cs k ++ [.int .i64 (a : Int), .int .i64 (b : Int), .slice (As k) n (cs k)])[i * 3 + 2]? = _
    by_cases e : i = k
    · subst e
      refine ⟨?_, ?_, ?_⟩
      · rw [List.getElem?_append_right (by omega), hl, show i * 3 - i * 3 = 0 by omega]; rfl
      · rw [List.getElem?_append_right (by omega), hl, show i * 3 + 1 - i * 3 = 1 by omega]; rfl
      · rw [List.getElem?_append_right (by omega), hl, show i * 3 + 2 - i * 3 = 2 by omega]; rfl
    · have hi := plv_get a b n As cs i k (by omega)
      rw [List.getElem?_append_left (by omega), List.getElem?_append_left (by omega), List.getElem?_append_left (by omega)]
      exact hi
theorem plv_ext {a b n : Nat} {As Bs : Nat → Option Addr} {cs ds : Nat → Nat} : ∀ {k : Nat}, (∀ i, i < k → As i = Bs i ∧ cs i = ds i) → plv a b n As cs k = plv a b n Bs ds k
  | 0, _ => rfl
  | k + 1, h => by
    show plv a b n As cs k ++ _ = plv a b n Bs ds k ++ _
    rw [plv_ext (k := k) (fun i hi => h i (by omega)), (h k (by omega)).1, (h k (by omega)).2]
structure Pls (w wr : World) (W H P : Int) (A : Option Addr) (N c : Nat) (v : Value) (k a b n : Nat) (G : Nat → Nat → Nat → Int) (As : Nat → Option Addr) (cs : Nat → Nat) : Prop where
  bel : Below w.heap.size w wr
  x0 : Bx wr w.heap.size 29 #[.int .i64 W, .int .i64 H, .int .i64 P, .slice A N c]
  x1 : Bx wr (w.heap.size + 1) 29 #[.int .i64 0, .int .i64 0, .int .i64 0, .slice none 0 0]
  ow : wr.ownsRow (w.heap.size + 2) 59 3 v k (plv a b n As cs k)
  rows : ∀ i, i < k → Rds .i64 wr wr.heap.size (As i) (grN a b (G i)) ∧ n ≤ cs i
  sep : ∀ i, i < k → ∀ ad, As i = some ad → ∀ g, v.ownBlock = some g → ad.block ≠ g
  lt : ∀ i, i < k → ∀ ad, As i = some ad → ad.block < wr.heap.size
theorem Pls.call {w wr u : World} {W H P : Int} {A : Option Addr} {N c : Nat} {v : Value} {k a b n : Nat} {G : Nat → Nat → Nat → Int} {As : Nat → Option Addr} {cs : Nat → Nat} (h : Pls w wr W H P A N c v k a b n G As cs) (hB : Below wr.heap.size wr u) : Pls w u W H P A N c v k a b n G As cs :=
  ⟨h.bel.trans (hB.mono h.bel.size), h.x0.below hB, h.x1.below hB, ownsRow_keep h.ow (fun g e => hB.block g (h.ow.lt g e).2), fun i hi => ⟨((h.rows i hi).1.below hB).more hB.size, (h.rows i hi).2⟩, h.sep, fun i hi ad e => Nat.lt_of_lt_of_le (h.lt i hi ad e) hB.size⟩
theorem Pls.app {w u w' : World} {W H P : Int} {A : Option Addr} {N c : Nat} {v v' : Value} {k a b n : Nat} {G : Nat → Nat → Nat → Int} {As : Nat → Option Addr} {cs : Nat → Nat} (h : Pls w u W H P A N c v k a b n G As cs) {A3 : Option Addr} {c3 : Nat} (h3 : Rds .i64 u u.heap.size A3 (grN a b (G k))) (hc3 : n ≤ c3) (hs3 : ∀ ad, A3 = some ad → (∀ g, v.ownBlock = some g → ad.block ≠ g) ∧ ad.block < u.heap.size)
    (hO : w'.ownsRow (w.heap.size + 2) 59 3 v' (k + 1) (plv a b n As cs k ++ [.int .i64 (a : Int), .int .i64 (b : Int), .slice A3 n c3])) (hG : u.grownBy w' v.ownBlock) (hW : ∀ g, v'.ownBlock = some g → v.ownBlock = some g ∨ u.heap.size ≤ g) (hz : w.heap.size + 2 ≤ u.heap.size) :
    Pls w w' W H P A N c v' (k + 1) a b n G (fun i => if i = k then A3 else As i) (fun i => if i = k then c3 else cs i) := by
  have hlo : ∀ g, v.ownBlock = some g → w.heap.size + 2 ≤ g := fun g e => (h.ow.lt g e).1
  have keep : ∀ {B : Option Addr} {xs : List Int}, Rds .i64 u u.heap.size B xs → (∀ ad, B = some ad → ∀ g, v.ownBlock = some g → ad.block ≠ g) → Rds .i64 w' w'.heap.size B xs := by
    intro B xs hr hs
    rcases hr with e | ⟨bb, off, rfl, hb, hc⟩
    · exact .inl e
    · refine .inr ⟨bb, off, rfl, Nat.lt_of_lt_of_le hb hG.size, fun j hj => ?_⟩
      have : w'.cell? ⟨bb, off + j, none⟩ = u.cell? ⟨bb, off + j, none⟩ := World.cell?_of_block (hG.block bb hb (fun e => hs _ rfl bb e.symm rfl))
      rw [this]; exact hc j hj
  refine ⟨h.bel.grown hG h.bel.size (fun g e => by have := hlo g e; omega), h.x0.kept hG (fun e => by have := hlo _ e.symm; omega), h.x1.kept hG (fun e => by have := hlo _ e.symm; omega), ?_, fun i hi => ?_, fun i hi ad e g eg => ?_, fun i hi ad e => ?_⟩
  · have e : plv a b n (fun i => if i = k then A3 else As i) (fun i => if i = k then c3 else cs i) (k + 1) = plv a b n As cs k ++ [.int .i64 (a : Int), .int .i64 (b : Int), .slice A3 n c3] := by
      show plv a b n (fun i => if i = k then A3 else As i) (fun i => if i = k then c3 else cs i) k ++ [.int .i64 (a : Int), .int .i64 (b : Int), .slice (if k = k then A3 else As k) n (if k = k then c3 else cs k)] = _
      rw [if_pos rfl, if_pos rfl, plv_ext (Bs := As) (ds := cs) (fun i hi => ⟨if_neg (by omega), if_neg (by omega)⟩)]
    rw [e]; exact hO
  · by_cases e : i = k
    · subst e
      simp only [if_pos rfl]
      exact ⟨keep h3 (fun ad e => (hs3 ad e).1), hc3⟩
    · simp only [if_neg e]
      exact ⟨keep (h.rows i (by omega)).1 (h.sep i (by omega)), (h.rows i (by omega)).2⟩
  · have hk : (∀ g, v.ownBlock = some g → ad.block ≠ g) ∧ ad.block < u.heap.size := by
      by_cases e2 : i = k
      · simp only [if_pos e2] at e; exact hs3 ad e
      · simp only [if_neg e2] at e; exact ⟨h.sep i (by omega) ad e, h.lt i (by omega) ad e⟩
    rcases hW g eg with h1 | h1
    · exact hk.1 g h1
    · have := hk.2; omega
  · have hsz := hG.size
    by_cases e2 : i = k
    · simp only [if_pos e2] at e; exact Nat.lt_of_lt_of_le (hs3 ad e).2 hsz
    · simp only [if_neg e2] at e; exact Nat.lt_of_lt_of_le (h.lt i (by omega) ad e) hsz
end Go.Proofs.Ytjgcondkoaegnaa
namespace Go.Proofs.Ytjgcondkoaegnaa
open Go.RowKit Go.Shelf
set_option linter.unusedSimpArgs false
set_option linter.unusedVariables false
set_option maxRecDepth 20000

set_option maxHeartbeats 16000000 in
theorem iChP_any (W H P a b : Nat) (hW : W ≤ 16) (hH : H ≤ 16) (hP1 : 1 ≤ P) (hP : P ≤ 4) (ha1 : 1 ≤ a) (ha : a ≤ 16) (hb1 : 1 ≤ b) (hb : b ≤ 16) (A : Option Addr) (c : Nat) (xs : List Int) (hl : xs.length = W * H * P) (G : Nat → Nat → Nat → Int) (gf : Nat) (fcs : Array Value) (w : World) (hr : Rds .i64 w w.heap.size A xs)
    (eg : ∀ args w, (callFunc gf args).run Try.prog w = .ok (.enter gf args) w)
    (hcl : ∀ (p : Nat) (A' : Option Addr) (c' n' : Nat) (w' : World), p < P → Below w.heap.size w w' → W * H = n' → n' ≤ c' → Rds .i64 w' w'.heap.size A' (grN W H (fun x y => px W P xs x y p)) → Calls Try.prog gf (#[.agg #[.int .i64 (W : Int), .int .i64 (H : Int), .slice A' n' c']] ++ fcs) w' (GridI a b (G p) w')) :
    Calls Try.prog 32 #[.agg #[.int .i64 (W : Int), .int .i64 (H : Int), .int .i64 (P : Int), .slice A xs.length c], .func (.func gf) #[] fcs] w (MadeI a b P (img a b P (fun x y p => G p x y)) w) := by
  have Hr := Lib.hid hr
  have Hl := Lib.hid hl
  have HC := Lib.hid hcl
  obtain ⟨n, hn⟩ : ∃ n, n = a * b := ⟨_, rfl⟩
  have Hn := Lib.hid hn
  have HI0 : Hid (Pls w ((w.alloc (.cells #[.int .i64 (W : Int), .int .i64 (H : Int), .int .i64 (P : Int), .slice A xs.length c] 29)).alloc (.cells #[.int .i64 0, .int .i64 0, .int .i64 0, .slice none 0 0] 29)) W H P A xs.length c (.slice none 0 0) 0 a b n G (fun _ => none) (fun _ => 0)) := Lib.hid (by
    have e := Bx.new (w.alloc (.cells #[.int .i64 (W : Int), .int .i64 (H : Int), .int .i64 (P : Int), .slice A xs.length c] 29)) 29 #[.int .i64 0, .int .i64 0, .int .i64 0, .slice none 0 0]
    rw [World.size_alloc] at e
    exact ⟨((Below.refl _ _).alloc (Nat.le_refl _) _).alloc (by simp) _, (Bx.new w _ _).alloc _, e, World.ownsRow_nil _ _ _ _, fun i hi => by omega, fun i hi => by omega, fun i hi => by omega⟩)
  have Hz0 : Hid (((w.alloc (.cells #[.int .i64 (W : Int), .int .i64 (H : Int), .int .i64 (P : Int), .slice A xs.length c] 29)).alloc (.cells #[.int .i64 0, .int .i64 0, .int .i64 0, .slice none 0 0] 29)).heap.size = w.heap.size + 2) := Lib.hid (by simp)
  clear hr hl hcl hn
  go_enter Try.func32, Try.ntmps32
  go_wp2
  generalize (w.alloc (.cells #[.int .i64 (W : Int), .int .i64 (H : Int), .int .i64 (P : Int), .slice A xs.length c] 29)).alloc (.cells #[.int .i64 0, .int .i64 0, .int .i64 0, .slice none 0 0] 29) = u0 at *
  go_loopw [5, 9] (fun v i wr => ∃ (k : Nat) (As : Nat → Option Addr) (cs : Nat → Nat), k ≤ P ∧ i = .int .i64 (k : Int) ∧ Hid (Pls w wr W H P A xs.length c v k a b n G As cs ∧ w.heap.size + 2 ≤ wr.heap.size)) (fun _ i _ => P - (intOf i).toNat)
  case atStart => exact ⟨0, _, _, Nat.zero_le _, rfl, Lib.hid ⟨HI0.out, by have := Hz0.out; omega⟩⟩
  case round =>
    obtain ⟨k, As, cs, hk, rfl, hI⟩ := hrel
    clear HI0
    by_cases hlt : k < P
    · have hPl := hI.out.1
      have hz := hI.out.2
      obtain ⟨m0, m1, m2, m3⟩ := bx4 hPl.x0
      have hml := hPl.x0.lt
      have HB := Lib.hid hPl.bel
      have HI := Lib.hid hI.out
      clear hI hPl
      go_wp2_with fail
      refine (iPlane_any W H P k hW hH hP hlt A c xs Hl.out wr ((Hr.out.below HB.out).more HB.out.size)).mono ?_
      rintro e w2 ⟨v2, rfl, hO2, hB2⟩
      obtain ⟨A2, c2, rfl, hc2⟩ := hO2.slice
      have HP2 := Lib.hid (HI.out.1.call hB2)
      have HR2 := Lib.hid hO2.rds.2
      have HZ2 : Hid (w.heap.size + 2 ≤ w2.heap.size ∧ wr.heap.size ≤ w2.heap.size) := Lib.hid ⟨by have := hB2.size; omega, hB2.size⟩
      clear hO2 hB2 m0 m1 m2 m3
      go_wp2_with fail
      refine (HC.out k A2 c2 _ w2 hlt HP2.out.bel (grN_len W H (fun x y => px W P xs x y k)).symm hc2 HR2.out).mono ?_
      rintro e w3 ⟨v3, rfl, hO3, hB3⟩
      have hlen : (img a b 1 (fun x y _ => G k x y)).length = n := by rw [Hn.out]; exact grN_len a b (G k)
      obtain ⟨A3, c3, rfl, hc3⟩ := hO3.slice
      rw [hlen] at hO3 hc3 ⊢
      have HP3 := Lib.hid ((HP2.out.call hB3).call ((Below.refl w3.heap.size w3).alloc (Nat.le_refl _) (.cells #[.int .i64 (a : Int), .int .i64 (b : Int), .slice A3 n c3] 59)))
      have HR3 : Hid (Rds .i64 (w3.alloc (.cells #[.int .i64 (a : Int), .int .i64 (b : Int), .slice A3 n c3] 59)) (w3.alloc (.cells #[.int .i64 (a : Int), .int .i64 (b : Int), .slice A3 n c3] 59)).heap.size A3 (grN a b (G k))) := Lib.hid ((hO3.rds.2.alloc (Nat.le_refl _) _).more (by simp))
      have HS3 : Hid (∀ ad, A3 = some ad → (∀ g, u5.ownBlock = some g → ad.block ≠ g) ∧ ad.block < (w3.alloc (.cells #[.int .i64 (a : Int), .int .i64 (b : Int), .slice A3 n c3] 59)).heap.size) := Lib.hid (fun ad e => by
        subst e
        have h1 := hO3.lt ad.block rfl
        refine ⟨fun g eg => ?_, by simp; omega⟩
        have h2 := (HI.out.1.ow.lt g eg).2
        have h3 := HZ2.out.2
        omega)
      have HZ3 : Hid (w.heap.size + 2 ≤ (w3.alloc (.cells #[.int .i64 (a : Int), .int .i64 (b : Int), .slice A3 n c3] 59)).heap.size) := Lib.hid (by have := HZ2.out.1; have := hB3.size; simp; omega)
      have HNw : Hid (∀ j u, [Value.int .i64 (a : Int), .int .i64 (b : Int), .slice A3 n c3][j]? = some u → (w3.alloc (.cells #[.int .i64 (a : Int), .int .i64 (b : Int), .slice A3 n c3] 59)).cell? ((⟨w3.heap.size, 0, none⟩ : Addr).add j) = some u) := Lib.hid (fun j u hj => by
        have h := heap_alloc_new w3 (.cells #[.int .i64 (a : Int), .int .i64 (b : Int), .slice A3 n c3] 59)
        rw [add_spot rfl j, Nat.zero_add, cell_of_row _ _ j _ _ _ h]
        simpa using hj)
      have hk1000 : k ≤ 1000 := by omega
      clear hO3 hB3 HP2 HR2
      go_wp2_with (at_builtin; refine wpList_app3 rfl (.tmp 12) (.tmp 18) rfl (w.heap.size + 2) u5 k (plv a b n As cs k) rfl HP3.out.ow ⟨w3.heap.size, 0, none⟩ 1 _ _ _ rfl HNw.out (by intro u hu; simp at hu; rcases hu with rfl | rfl | rfl <;> rfl) hk1000 HZ3.out ?_; intro v5 w5 hO5 hG5 hW5)
      have HN := Lib.hid (And.intro (HP3.out.app HR3.out hc3 HS3.out hO5 hG5 hW5 HZ3.out) (show w.heap.size + 2 ≤ w5.heap.size by have := HZ3.out; have := hG5.size; omega))
      clear hO5 hG5 hW5 HP3 HR3 HS3 HNw
      go_roundw
      case rel => exact ⟨k + 1, _, _, by omega, by go_num, HN⟩
      case measure => simp [intOf]; omega
    · have hkP : k = P := by omega
      subst hkP
      have hPl := hI.out.1
      rcases hPl.ow.2 with ⟨_, h0⟩ | ⟨g, cap, cur, rfl, hbg, hg, hnc, hcm, hcs, htake⟩
      · omega
      · have HX1 := Lib.hid hPl.x1
        have HB := Lib.hid hPl.bel
        have HJ := Lib.hid (join_any a b k ha1 ha hb1 hb hP1 hP g 0 cap (fun x y i => G i x y) As cs wr (hPl.ow.lt g rfl).2 (fun i hi => by
          have hgt := plv_get a b n As cs i k hi
          have hcl := hPl.ow.cells (g := g) rfl
          have e0 := hcl (i * 3) _ hgt.1
          have e1 := hcl (i * 3 + 1) _ hgt.2.1
          have e2 := hcl (i * 3 + 2) _ hgt.2.2
          rw [add_spot rfl] at e0 e1 e2
          rw [Hn.out] at e2
          exact ⟨e0, by simpa [Nat.add_assoc] using e1, by simpa [Nat.add_assoc] using e2⟩) (fun i hi => ⟨(hPl.rows i hi).1, by have := (hPl.rows i hi).2; rw [Hn.out] at this; exact this⟩))
        have HZ := Lib.hid hI.out.2
        clear hI hPl hg hcs htake hnc hcm
        go_wp2_with fail
        refine HJ.out.mono ?_
        rintro e w6 ⟨v6, rfl, hO6, hB6⟩
        obtain ⟨A6, c6, rfl, _⟩ := hO6.slice
        have hX6 := HX1.out.below hB6
        obtain ⟨r0, r1, r2, r3⟩ := bx4 hX6
        have f0 := hX6.fz 0
        have f1 := hX6.fz 1
        have f2 := hX6.fz 2
        have f3 := hX6.fz 3
        have HE := Lib.hid (im_end (w := w) (r := w.heap.size + 1) hO6 (by have := HZ.out; omega) (by omega) (HB.out.trans (hB6.mono HB.out.size)) (.int .i64 (a : Int)) (.int .i64 (b : Int)) (.int .i64 (k : Int)) (.slice A6 (img a b k (fun x y i => G i x y)).length c6))
        clear hX6 hO6 hB6 HX1 HJ
        go_wp2
        exact bodyPost_ret (v := .agg #[.int .i64 (a : Int), .int .i64 (b : Int), .int .i64 (k : Int), .slice A6 (img a b k (fun x y i => G i x y)).length c6]) (by simp [results, Try.results32, go_sem, r0, r1, r2, r3]) rfl ⟨_, rfl, HE.out.1, HE.out.2⟩
def areL (W H P : Nat) (xs : List Int) (a b : Nat) : List Int := img a b P (fun x y p => arN W H a b (fun x y => px W P xs x y p) x y)
end Go.Proofs.Ytjgcondkoaegnaa
namespace Go.Proofs.Ytjgcondkoaegnaa
open Go.RowKit Go.Shelf
set_option linter.unusedSimpArgs false
set_option linter.unusedVariables false
set_option maxRecDepth 20000

theorem wr_natC {n : Nat} (h : n ≤ 100000) : IntKind.i64.wrap (n : Int) = (n : Int) := IntWalk.i64_in _ (by omega)
set_option maxHeartbeats 2000000 in
theorem iLim_any (n lo hi : Int) (w : World) : Calls Try.prog 36 #[.int .i64 n, .int .i64 lo, .int .i64 hi] w fun e w' => e = .returned (.int .i64 (lim n lo hi)) ∧ w = w' := by
  by_cases k1 : n < lo
  · by_cases k2 : lo ≤ hi
    all_goals
      go_enter Try.func36, Try.ntmps36
      go_wp2
      all_goals
        go_ret
        exact ⟨ret_int (by unfold lim; omega), rfl⟩
  · by_cases k2 : n ≤ hi
    all_goals
      go_enter Try.func36, Try.ntmps36
      go_wp2
      all_goals
        go_ret
        exact ⟨ret_int (by unfold lim; omega), rfl⟩
set_option maxHeartbeats 2000000 in
theorem iSide_any (r S : Nat) (hS : 2 * r + 1 = S) (A : Option Addr) (c N : Nat) (D : Int) (hr2 : r ≤ 2) (w : World) : Calls Try.prog 63 #[.agg #[.int .i64 (r : Int), .slice A N c, .int .i64 D]] w fun e w' => e = .returned (.int .i64 (S : Int)) ∧ Below w.heap.size w w' := by
  have e1 : (2 : Int) * (r : Int) + 1 = (S : Int) := by omega
  have w1 : IntKind.i64.wrap (2 * (r : Int)) = 2 * (r : Int) := IntWalk.i64_in _ (by omega)
  have w2 : IntKind.i64.wrap (S : Int) = (S : Int) := IntWalk.i64_in _ (by omega)
  have HB := Lib.hid ((Below.refl w.heap.size w).alloc (Nat.le_refl _) (.cells #[.int .i64 (r : Int), .slice A N c, .int .i64 D] 32))
  clear hS
  go_enter Try.func63, Try.ntmps63
  go_wp2
  go_ret
  exact ⟨rfl, HB.out⟩
set_option maxHeartbeats 8000000 in
theorem iKv_any (R : Int) (A : Option Addr) (c : Nat) (ks : List Int) (N : Nat) (hN : N = ks.length) (D : Int) (w : World) (hx : Rds .i64 w w.heap.size A ks) (hl : ks.length ≤ 2000000) :
    Calls Try.prog 31 #[.agg #[.int .i64 R, .slice A N c, .int .i64 D]] w fun e w' => e = .returned (.bool (knOk R ks D)) ∧ Below w.heap.size w w' := by
  have HX := Lib.hid hx
  have HV : Hid (knOk R ks D = (decide (0 ≤ R ∧ R ≤ 2) && (decide ((ks.length : Int) = (2 * R + 1) * (2 * R + 1)) && (allB (-99) 99 ks && decide (1 ≤ D ∧ D ≤ 999))))) := Lib.hid rfl
  have S0 : GS w (w.alloc (.cells #[.int .i64 R, .slice A N c, .int .i64 D] 32)) [] [⟨w.heap.size, 32, #[.int .i64 R, .slice A N c, .int .i64 D]⟩] := GS.box' (GS.start w) _ _ w.heap.size rfl
  have HN := Lib.hid hN
  have hl2 : N ≤ 2000000 := by omega
  clear hx hl hN
  by_cases h1 : 0 ≤ R ∧ R ≤ 2
  · obtain ⟨r, rfl⟩ := Int.eq_ofNat_of_zero_le h1.1
    have hr2 : r ≤ 2 := by omega
    by_cases h2 : 1 ≤ D ∧ D ≤ 999
    · obtain ⟨q, hq⟩ : ∃ q, q = (2 * r + 1) * (2 * r + 1) := ⟨_, rfl⟩
      have hq25 : q ≤ 25 := by rw [hq]; exact Nat.mul_le_mul (show 2 * r + 1 ≤ 5 by omega) (show 2 * r + 1 ≤ 5 by omega)
      have hqm : ((2 * r + 1 : Nat) : Int) * ((2 * r + 1 : Nat) : Int) = (q : Int) := by rw [hq]; exact (Int.natCast_mul _ _).symm
      have hqw : IntKind.i64.wrap (q : Int) = (q : Int) := IntWalk.i64_in _ (by omega)
      have HV2 : Hid (knOk (r : Int) ks D = (decide (ks.length = q) && allB (-99) 99 ks)) := Lib.hid (by
        rw [HV.out, decide_eq_true h1, decide_eq_true h2, Bool.true_and, Bool.and_true]
        congr 1
        rw [show (2 * (r : Int) + 1) = ((2 * r + 1 : Nat) : Int) by omega, hqm]
        exact decide_eq_decide.2 ⟨fun h => by omega, fun h => by omega⟩)
      clear HV hq
      generalize hS : (2 * r + 1) = sd at hqm
      have HSd := Lib.hid hS
      clear hS
      go_enter Try.func31, Try.ntmps31
      go_upto_region 1 with fail
      generalize w.alloc (.cells #[.int .i64 (r : Int), .slice A N c, .int .i64 D] 32) = u0 at *
      have HC := Lib.hid S0.drew
      clear S0
      refine wp_region_held_drew (S := (fun w' => w'.cell? ⟨w.heap.size, 0, none⟩ = some (.int .i64 (r : Int)) ∧ w'.cell? ⟨w.heap.size, 1, none⟩ = some (.slice A N c) ∧ w'.cell? ⟨w.heap.size, 2, none⟩ = some (.int .i64 D))) (by kernel_rfl) (by exact ⟨HC.out.b0_3.1, HC.out.b0_3.2.1, HC.out.b0_3.2.2⟩) (fun hHeld => ?_)
      refine' wpAnyH_take (i := 0) (oi := _) (v := _) ?hi43 (by kernel_rfl) (by kernel_rfl) (by kernel_rfl) ?hq43 (Or.inl ⟨?hw43, ?hy43⟩) (by assumption) ?rest43
      case hi43 => (simp only [List.getElem?_toArray, List.getElem?_cons_succ, List.getElem?_cons_zero]; rfl)
      case hq43 => exact fun _ _ _ h => h
      case hw43 => rfl
      case hy43 => (intro wq hSw; (try dsimp only at hSw); go_simp; (try with_reducible rfl))
      (try simp only [Act.put, List.setIfInBounds_toArray, List.set_cons_zero, List.set_cons_succ])
      refine' wpAnyH_take (i := 1) (oi := _) (v := _) ?hi44 (by kernel_rfl) (by kernel_rfl) (by kernel_rfl) ?hq44 (Or.inl ⟨?hw44, ?hy44⟩) (by assumption) ?rest44
      case hi44 => (simp only [List.getElem?_toArray, List.getElem?_cons_succ, List.getElem?_cons_zero]; rfl)
      case hq44 => exact fun _ _ _ h => h
      case hw44 => rfl
      case hy44 => (intro wq hSw; (try dsimp only at hSw); go_simp; (try with_reducible rfl))
      (try simp only [Act.put, List.setIfInBounds_toArray, List.set_cons_zero, List.set_cons_succ])
      refine wpAnyH_ready (rs := [2]) (by kernel_rfl) (by simp) ?_
      refine' AllReadyH.cons (o := _) ?hi45 (fun K hK => ?rest45) AllReadyH.nil
      case hi45 => (simp only [List.getElem?_toArray, List.getElem?_cons_succ, List.getElem?_cons_zero]; rfl)
      go_simp
      go_at_call 56
      refine (iIn_any (r : Int) 0 2 _).mono ?_
      rintro e wa ⟨rfl, rfl⟩
      rw [decide_eq_true h1]
      refine hK.out _ _ (by (try dsimp only); exact ⟨HC.out.b0_3.1, HC.out.b0_3.2.1, HC.out.b0_3.2.2⟩) (fun hHeld => ?_)
      clear hK K
      (try simp only [Act.put, List.setIfInBounds_toArray, List.set_cons_zero, List.set_cons_succ])
      refine' wpAnyH_take (i := 3) (oi := _) (v := _) ?hi46 (by kernel_rfl) (by kernel_rfl) (by kernel_rfl) ?hq46 (Or.inl ⟨?hw46, ?hy46⟩) (by assumption) ?rest46
      case hi46 => (simp only [List.getElem?_toArray, List.getElem?_cons_succ, List.getElem?_cons_zero]; rfl)
      case hq46 => exact fun _ _ _ h => h
      case hw46 => rfl
      case hy46 => (intro wq hSw; (try dsimp only at hSw); go_simp; (try with_reducible rfl))
      (try simp only [Act.put, List.setIfInBounds_toArray, List.set_cons_zero, List.set_cons_succ])
      refine' wpAnyH_take (i := 4) (oi := _) (v := _) ?hi47 (by kernel_rfl) (by kernel_rfl) (by kernel_rfl) ?hq47 (Or.inl ⟨?hw47, ?hy47⟩) (by assumption) ?rest47
      case hi47 => (simp only [List.getElem?_toArray, List.getElem?_cons_succ, List.getElem?_cons_zero]; rfl)
      case hq47 => exact fun _ _ _ h => h
      case hw47 => rfl
      case hy47 => (intro wq hSw; (try dsimp only at hSw); go_simp; (try with_reducible rfl))
      (try simp only [Act.put, List.setIfInBounds_toArray, List.set_cons_zero, List.set_cons_succ])
      refine' wpAnyH_take (i := 5) (oi := _) (v := _) ?hi48 (by kernel_rfl) (by kernel_rfl) (by kernel_rfl) ?hq48 (Or.inl ⟨?hw48, ?hy48⟩) (by assumption) ?rest48
      case hi48 => (simp only [List.getElem?_toArray, List.getElem?_cons_succ, List.getElem?_cons_zero]; rfl)
      case hq48 => exact fun _ _ _ h => h
      case hw48 => rfl
      case hy48 => (intro wq hSw; (try dsimp only at hSw); go_simp; (try with_reducible rfl))
      (try simp only [Act.put, List.setIfInBounds_toArray, List.set_cons_zero, List.set_cons_succ])
      refine' wpAnyH_take (i := 6) (oi := _) (v := _) ?hi49 (by kernel_rfl) (by kernel_rfl) (by kernel_rfl) ?hq49 (Or.inl ⟨?hw49, ?hy49⟩) (by assumption) ?rest49
      case hi49 => (simp only [List.getElem?_toArray, List.getElem?_cons_succ, List.getElem?_cons_zero]; rfl)
      case hq49 => exact fun _ _ _ h => h
      case hw49 => rfl
      case hy49 => (intro wq hSw; (try dsimp only at hSw); go_simp; (try with_reducible rfl))
      (try simp only [Act.put, List.setIfInBounds_toArray, List.set_cons_zero, List.set_cons_succ])
      refine wpAnyH_ready (rs := [7]) (by kernel_rfl) (by simp) ?_
      refine' AllReadyH.cons (o := _) ?hi50 (fun K hK => ?rest50) AllReadyH.nil
      case hi50 => (simp only [List.getElem?_toArray, List.getElem?_cons_succ, List.getElem?_cons_zero]; rfl)
      go_simp
      go_at_call 56
      refine (iIn_any D 1 999 _).mono ?_
      rintro e wb ⟨rfl, rfl⟩
      rw [decide_eq_true h2]
      refine hK.out _ _ (by (try dsimp only); exact ⟨HC.out.b0_3.1, HC.out.b0_3.2.1, HC.out.b0_3.2.2⟩) (fun hHeld => ?_)
      clear hK K
      (try simp only [Act.put, List.setIfInBounds_toArray, List.set_cons_zero, List.set_cons_succ])
      refine' wpAnyH_take (i := 8) (oi := _) (v := _) ?hi51 (by kernel_rfl) (by kernel_rfl) (by kernel_rfl) ?hq51 (Or.inl ⟨?hw51, ?hy51⟩) (by assumption) ?rest51
      case hi51 => (simp only [List.getElem?_toArray, List.getElem?_cons_succ, List.getElem?_cons_zero]; rfl)
      case hq51 => exact fun _ _ _ h => h
      case hw51 => rfl
      case hy51 => (intro wq hSw; (try dsimp only at hSw); go_simp; (try with_reducible rfl))
      (try simp only [Act.put, List.setIfInBounds_toArray, List.set_cons_zero, List.set_cons_succ])
      refine' wpAnyH_take (i := 9) (oi := _) (v := _) ?hi52 (by kernel_rfl) (by kernel_rfl) (by kernel_rfl) ?hq52 (Or.inl ⟨?hw52, ?hy52⟩) (by assumption) ?rest52
      case hi52 => (simp only [List.getElem?_toArray, List.getElem?_cons_succ, List.getElem?_cons_zero]; rfl)
      case hq52 => exact fun _ _ _ h => h
      case hw52 => rfl
      case hy52 => (intro wq hSw; (try dsimp only at hSw); go_simp; (try with_reducible rfl))
      (try simp only [Act.put, List.setIfInBounds_toArray, List.set_cons_zero, List.set_cons_succ])
      refine' wpAnyH_take (i := 10) (oi := _) (v := _) ?hi53 (by kernel_rfl) (by kernel_rfl) (by kernel_rfl) ?hq53 (Or.inl ⟨?hw53, ?hy53⟩) (by assumption) ?rest53
      case hi53 => (simp only [List.getElem?_toArray, List.getElem?_cons_succ, List.getElem?_cons_zero]; rfl)
      case hq53 => exact fun _ _ _ h => h
      case hw53 => rfl
      case hy53 => (intro wq hSw; (try dsimp only at hSw); go_simp; (try with_reducible rfl))
      (try simp only [Act.put, List.setIfInBounds_toArray, List.set_cons_zero, List.set_cons_succ])
      refine' wpAnyH_take (i := 11) (oi := _) (v := _) ?hi54 (by kernel_rfl) (by kernel_rfl) (by kernel_rfl) ?hq54 (Or.inl ⟨?hw54, ?hy54⟩) (by assumption) ?rest54
      case hi54 => (simp only [List.getElem?_toArray, List.getElem?_cons_succ, List.getElem?_cons_zero]; rfl)
      case hq54 => exact fun _ _ _ h => h
      case hw54 => rfl
      case hy54 => (intro wq hSw; (try dsimp only at hSw); go_simp; (try with_reducible rfl))
      (try simp only [Act.put, List.setIfInBounds_toArray, List.set_cons_zero, List.set_cons_succ])
      refine' wpAnyH_take (i := 12) (oi := _) (v := _) ?hi55 (by kernel_rfl) (by kernel_rfl) (by kernel_rfl) ?hq55 (Or.inl ⟨?hw55, ?hy55⟩) (by assumption) ?rest55
      case hi55 => (simp only [List.getElem?_toArray, List.getElem?_cons_succ, List.getElem?_cons_zero]; rfl)
      case hq55 => exact fun _ _ _ h => h
      case hw55 => rfl
      case hy55 => (intro wq hSw; (try dsimp only at hSw); go_simp; (try with_reducible rfl))
      (try simp only [Act.put, List.setIfInBounds_toArray, List.set_cons_zero, List.set_cons_succ])
      refine' wpAnyH_take (i := 13) (oi := _) (v := _) ?hi56 (by kernel_rfl) (by kernel_rfl) (by kernel_rfl) ?hq56 (Or.inl ⟨?hw56, ?hy56⟩) (by assumption) ?rest56
      case hi56 => (simp only [List.getElem?_toArray, List.getElem?_cons_succ, List.getElem?_cons_zero]; rfl)
      case hq56 => exact fun _ _ _ h => h
      case hw56 => rfl
      case hy56 => (intro wq hSw; (try dsimp only at hSw); go_simp; (try with_reducible rfl))
      (try simp only [Act.put, List.setIfInBounds_toArray, List.set_cons_zero, List.set_cons_succ])
      refine' wpAnyH_take (i := 14) (oi := _) (v := _) ?hi57 (by kernel_rfl) (by kernel_rfl) (by kernel_rfl) ?hq57 (Or.inl ⟨?hw57, ?hy57⟩) (by assumption) ?rest57
      case hi57 => (simp only [List.getElem?_toArray, List.getElem?_cons_succ, List.getElem?_cons_zero]; rfl)
      case hq57 => exact fun _ _ _ h => h
      case hw57 => rfl
      case hy57 => (intro wq hSw; (try dsimp only at hSw); go_simp; (try with_reducible rfl))
      (try simp only [Act.put, List.setIfInBounds_toArray, List.set_cons_zero, List.set_cons_succ])
      refine' wpAnyH_take (i := 16) (oi := _) (v := _) ?hi58 (by kernel_rfl) (by kernel_rfl) (by kernel_rfl) ?hq58 (Or.inl ⟨?hw58, ?hy58⟩) (by assumption) ?rest58
      case hi58 => (simp only [List.getElem?_toArray, List.getElem?_cons_succ, List.getElem?_cons_zero]; rfl)
      case hq58 => exact fun _ _ _ h => h
      case hw58 => rfl
      case hy58 => (intro wq hSw; (try dsimp only at hSw); go_simp; (try with_reducible rfl))
      (try simp only [Act.put, List.setIfInBounds_toArray, List.set_cons_zero, List.set_cons_succ])
      refine wpAnyH_ready (rs := [15]) (by kernel_rfl) (by simp) ?_
      refine' AllReadyH.cons (o := _) ?hi59 (fun K hK => ?rest59) AllReadyH.nil
      case hi59 => (simp only [List.getElem?_toArray, List.getElem?_cons_succ, List.getElem?_cons_zero]; rfl)
      go_simp
      go_at_call 63
      refine (iSide_any r sd HSd.out A c N D hr2 _).mono ?_
      rintro e wc ⟨rfl, hB⟩
      have HD := Lib.hid (HC.out.call hB)
      clear HC hB
      have HC := HD
      clear HD
      refine hK.out _ _ (by (try dsimp only); exact ⟨HC.out.b0_3.1, HC.out.b0_3.2.1, HC.out.b0_3.2.2⟩) (fun hHeld => ?_)
      clear hK K
      (try simp only [Act.put, List.setIfInBounds_toArray, List.set_cons_zero, List.set_cons_succ])
      refine wpAnyH_ready (rs := [17]) (by kernel_rfl) (by simp) ?_
      refine' AllReadyH.cons (o := _) ?hi60 (fun K hK => ?rest60) AllReadyH.nil
      case hi60 => (simp only [List.getElem?_toArray, List.getElem?_cons_succ, List.getElem?_cons_zero]; rfl)
      go_simp
      go_at_call 63
      refine (iSide_any r sd HSd.out A c N D hr2 _).mono ?_
      rintro e wd ⟨rfl, hB⟩
      have HD := Lib.hid (HC.out.call hB)
      clear HC hB
      have HC := HD
      clear HD
      refine hK.out _ _ (by (try dsimp only); exact ⟨HC.out.b0_3.1, HC.out.b0_3.2.1, HC.out.b0_3.2.2⟩) (fun hHeld => ?_)
      clear hK K
      (try simp only [Act.put, List.setIfInBounds_toArray, List.set_cons_zero, List.set_cons_succ])
      refine' wpAnyH_take (i := 18) (oi := _) (v := _) ?hi61 (by kernel_rfl) (by kernel_rfl) (by kernel_rfl) ?hq61 (Or.inl ⟨?hw61, ?hy61⟩) (by assumption) ?rest61
      case hi61 => (simp only [List.getElem?_toArray, List.getElem?_cons_succ, List.getElem?_cons_zero]; rfl)
      case hq61 => exact fun _ _ _ h => h
      case hw61 => rfl
      case hy61 => (intro wq hSw; (try dsimp only at hSw); go_simp; (try with_reducible rfl))
      (try simp only [Act.put, List.setIfInBounds_toArray, List.set_cons_zero, List.set_cons_succ])
      refine' wpAnyH_take (i := 19) (oi := _) (v := _) ?hi62 (by kernel_rfl) (by kernel_rfl) (by kernel_rfl) ?hq62 (Or.inl ⟨?hw62, ?hy62⟩) (by assumption) ?rest62
      case hi62 => (simp only [List.getElem?_toArray, List.getElem?_cons_succ, List.getElem?_cons_zero]; rfl)
      case hq62 => exact fun _ _ _ h => h
      case hw62 => rfl
      case hy62 => (intro wq hSw; (try dsimp only at hSw); go_simp; (try with_reducible rfl))
      (try simp only [Act.put, List.setIfInBounds_toArray, List.set_cons_zero, List.set_cons_succ])
      refine' wpAnyH_take (i := 20) (oi := _) (v := _) ?hi63 (by kernel_rfl) (by kernel_rfl) (by kernel_rfl) ?hq63 (Or.inl ⟨?hw63, ?hy63⟩) (by assumption) ?rest63
      case hi63 => (simp only [List.getElem?_toArray, List.getElem?_cons_succ, List.getElem?_cons_zero]; rfl)
      case hq63 => exact fun _ _ _ h => h
      case hw63 => rfl
      case hy63 => (intro wq hSw; (try dsimp only at hSw); go_simp; (try with_reducible rfl))
      (try simp only [Act.put, List.setIfInBounds_toArray, List.set_cons_zero, List.set_cons_succ])
      refine wpAnyH_done (by kernel_rfl) ?_ _
      have S1 := HC.out
      clear HC
      obtain ⟨b0, b1, b2⟩ := S1.b0_3
      by_cases h3 : N = q
      · have HA : Hid (knOk (r : Int) ks D = allB (-99) 99 ks) := Lib.hid (by rw [HV2.out, decide_eq_true (show ks.length = q by have := HN.out; omega)]; rfl)
        have HS := Lib.hid S1
        clear HV2 S1
        subst h3
        go_wp2
        simp only [bne_self_eq_false]
        go_loopw [4, 29] (fun v i wr => ∃ k : Nat, k ≤ N ∧ i = .int .i64 (k : Int) ∧ Hid (∀ j, j < k → -99 ≤ ks.getD j 0 ∧ ks.getD j 0 ≤ 99) ∧ Hid (GS w wr [] [⟨w.heap.size, 32, #[.int .i64 (r : Int), .slice A N c, .int .i64 D]⟩])) (fun _ i _ => N - (intOf i).toNat)
        case atStart => exact ⟨0, Nat.zero_le _, rfl, Lib.hid (fun j hj => by omega), HS⟩
        case round =>
          clear HS b0 b1 b2
          obtain ⟨k, hk, rfl, HJ, HS⟩ := hrel
          by_cases hlt : k < N
          · obtain ⟨b, off, rfl, hb, hc⟩ := (HS.out.arg HX.out).cells_ (j := k) (by have := HN.out; omega)
            have hck := hc k (by have := HN.out; omega)
            clear hc hb
            obtain ⟨z, hz⟩ : ∃ z, z = ks.getD k 0 := ⟨_, rfl⟩
            have Hz := Lib.hid hz
            rw [← hz] at hck
            clear hz
            go_wp2_with fail
            refine (iIn_any z (-99) 99 _).mono ?_
            rintro e wz ⟨rfl, rfl⟩
            by_cases hr : -99 ≤ z ∧ z ≤ 99
            · rw [decide_eq_true hr]
              have HJ2 : Hid (∀ j, j < k + 1 → -99 ≤ ks.getD j 0 ∧ ks.getD j 0 ≤ 99) := Lib.hid (fun j hj => by
                by_cases e : j = k
                · subst e; rw [← Hz.out]; exact hr
                · exact HJ.out j (by omega))
              go_wp2
              go_roundw
              case rel => exact ⟨k + 1, by omega, by go_num, HJ2, HS⟩
              case measure => simp [intOf]; omega
            · rw [decide_eq_false hr]
              have HF : Hid (knOk (r : Int) ks D = false) := Lib.hid (by rw [HA.out]; exact allB_no (k := k) (by have := HN.out; omega) (by rw [← Hz.out]; exact hr))
              have HB := Lib.hid HS.out.below
              clear HS
              go_wp2
              go_ret
              exact ⟨ret_bool HF.out.symm, HB.out⟩
          · have HT : Hid (knOk (r : Int) ks D = true) := Lib.hid (by rw [HA.out]; exact allB_yes fun j hj => HJ.out j (by have := HN.out; omega))
            have HB := Lib.hid HS.out.below
            clear HS
            go_wp2
            go_ret
            exact ⟨ret_bool HT.out.symm, HB.out⟩
      · have HF : Hid (knOk (r : Int) ks D = false) := Lib.hid (by rw [HV2.out, decide_eq_false (show ¬ ks.length = q by have := HN.out; omega)]; rfl)
        have hne : ¬ (N : Int) = (q : Int) := by omega
        have HB := Lib.hid S1.below
        clear HV2 S1
        go_wp2
        go_ret
        exact ⟨ret_bool HF.out.symm, HB.out⟩
    · have Hf : Hid (knOk (r : Int) ks D = false) := Lib.hid (by rw [HV.out, decide_eq_false h2, Bool.and_false, Bool.and_false, Bool.and_false])
      clear HV
      go_enter Try.func31, Try.ntmps31
      go_upto_region 1 with fail
      generalize w.alloc (.cells #[.int .i64 (r : Int), .slice A N c, .int .i64 D] 32) = u0 at *
      have HC := Lib.hid S0.drew
      clear S0
      refine wp_region_held_drew (S := (fun w' => w'.cell? ⟨w.heap.size, 0, none⟩ = some (.int .i64 (r : Int)) ∧ w'.cell? ⟨w.heap.size, 1, none⟩ = some (.slice A N c) ∧ w'.cell? ⟨w.heap.size, 2, none⟩ = some (.int .i64 D))) (by kernel_rfl) (by exact ⟨HC.out.b0_3.1, HC.out.b0_3.2.1, HC.out.b0_3.2.2⟩) (fun hHeld => ?_)
      refine' wpAnyH_take (i := 0) (oi := _) (v := _) ?hi22 (by kernel_rfl) (by kernel_rfl) (by kernel_rfl) ?hq22 (Or.inl ⟨?hw22, ?hy22⟩) (by assumption) ?rest22
      case hi22 => (simp only [List.getElem?_toArray, List.getElem?_cons_succ, List.getElem?_cons_zero]; rfl)
      case hq22 => exact fun _ _ _ h => h
      case hw22 => rfl
      case hy22 => (intro wq hSw; (try dsimp only at hSw); go_simp; (try with_reducible rfl))
      (try simp only [Act.put, List.setIfInBounds_toArray, List.set_cons_zero, List.set_cons_succ])
      refine' wpAnyH_take (i := 1) (oi := _) (v := _) ?hi23 (by kernel_rfl) (by kernel_rfl) (by kernel_rfl) ?hq23 (Or.inl ⟨?hw23, ?hy23⟩) (by assumption) ?rest23
      case hi23 => (simp only [List.getElem?_toArray, List.getElem?_cons_succ, List.getElem?_cons_zero]; rfl)
      case hq23 => exact fun _ _ _ h => h
      case hw23 => rfl
      case hy23 => (intro wq hSw; (try dsimp only at hSw); go_simp; (try with_reducible rfl))
      (try simp only [Act.put, List.setIfInBounds_toArray, List.set_cons_zero, List.set_cons_succ])
      refine wpAnyH_ready (rs := [2]) (by kernel_rfl) (by simp) ?_
      refine' AllReadyH.cons (o := _) ?hi24 (fun K hK => ?rest24) AllReadyH.nil
      case hi24 => (simp only [List.getElem?_toArray, List.getElem?_cons_succ, List.getElem?_cons_zero]; rfl)
      go_simp
      go_at_call 56
      refine (iIn_any (r : Int) 0 2 _).mono ?_
      rintro e wa ⟨rfl, rfl⟩
      rw [decide_eq_true h1]
      refine hK.out _ _ (by (try dsimp only); exact ⟨HC.out.b0_3.1, HC.out.b0_3.2.1, HC.out.b0_3.2.2⟩) (fun hHeld => ?_)
      clear hK K
      (try simp only [Act.put, List.setIfInBounds_toArray, List.set_cons_zero, List.set_cons_succ])
      refine' wpAnyH_take (i := 3) (oi := _) (v := _) ?hi25 (by kernel_rfl) (by kernel_rfl) (by kernel_rfl) ?hq25 (Or.inl ⟨?hw25, ?hy25⟩) (by assumption) ?rest25
      case hi25 => (simp only [List.getElem?_toArray, List.getElem?_cons_succ, List.getElem?_cons_zero]; rfl)
      case hq25 => exact fun _ _ _ h => h
      case hw25 => rfl
      case hy25 => (intro wq hSw; (try dsimp only at hSw); go_simp; (try with_reducible rfl))
      (try simp only [Act.put, List.setIfInBounds_toArray, List.set_cons_zero, List.set_cons_succ])
      refine' wpAnyH_take (i := 4) (oi := _) (v := _) ?hi26 (by kernel_rfl) (by kernel_rfl) (by kernel_rfl) ?hq26 (Or.inl ⟨?hw26, ?hy26⟩) (by assumption) ?rest26
      case hi26 => (simp only [List.getElem?_toArray, List.getElem?_cons_succ, List.getElem?_cons_zero]; rfl)
      case hq26 => exact fun _ _ _ h => h
      case hw26 => rfl
      case hy26 => (intro wq hSw; (try dsimp only at hSw); go_simp; (try with_reducible rfl))
      (try simp only [Act.put, List.setIfInBounds_toArray, List.set_cons_zero, List.set_cons_succ])
      refine' wpAnyH_take (i := 5) (oi := _) (v := _) ?hi27 (by kernel_rfl) (by kernel_rfl) (by kernel_rfl) ?hq27 (Or.inl ⟨?hw27, ?hy27⟩) (by assumption) ?rest27
      case hi27 => (simp only [List.getElem?_toArray, List.getElem?_cons_succ, List.getElem?_cons_zero]; rfl)
      case hq27 => exact fun _ _ _ h => h
      case hw27 => rfl
      case hy27 => (intro wq hSw; (try dsimp only at hSw); go_simp; (try with_reducible rfl))
      (try simp only [Act.put, List.setIfInBounds_toArray, List.set_cons_zero, List.set_cons_succ])
      refine' wpAnyH_take (i := 6) (oi := _) (v := _) ?hi28 (by kernel_rfl) (by kernel_rfl) (by kernel_rfl) ?hq28 (Or.inl ⟨?hw28, ?hy28⟩) (by assumption) ?rest28
      case hi28 => (simp only [List.getElem?_toArray, List.getElem?_cons_succ, List.getElem?_cons_zero]; rfl)
      case hq28 => exact fun _ _ _ h => h
      case hw28 => rfl
      case hy28 => (intro wq hSw; (try dsimp only at hSw); go_simp; (try with_reducible rfl))
      (try simp only [Act.put, List.setIfInBounds_toArray, List.set_cons_zero, List.set_cons_succ])
      refine wpAnyH_ready (rs := [7]) (by kernel_rfl) (by simp) ?_
      refine' AllReadyH.cons (o := _) ?hi29 (fun K hK => ?rest29) AllReadyH.nil
      case hi29 => (simp only [List.getElem?_toArray, List.getElem?_cons_succ, List.getElem?_cons_zero]; rfl)
      go_simp
      go_at_call 56
      refine (iIn_any D 1 999 _).mono ?_
      rintro e wb ⟨rfl, rfl⟩
      rw [decide_eq_false h2]
      refine hK.out _ _ (by (try dsimp only); exact ⟨HC.out.b0_3.1, HC.out.b0_3.2.1, HC.out.b0_3.2.2⟩) (fun hHeld => ?_)
      clear hK K
      (try simp only [Act.put, List.setIfInBounds_toArray, List.set_cons_zero, List.set_cons_succ])
      refine' wpAnyH_take (i := 8) (oi := _) (v := _) ?hi30 (by kernel_rfl) (by kernel_rfl) (by kernel_rfl) ?hq30 (Or.inl ⟨?hw30, ?hy30⟩) (by assumption) ?rest30
      case hi30 => (simp only [List.getElem?_toArray, List.getElem?_cons_succ, List.getElem?_cons_zero]; rfl)
      case hq30 => exact fun _ _ _ h => h
      case hw30 => rfl
      case hy30 => (intro wq hSw; (try dsimp only at hSw); go_simp; (try with_reducible rfl))
      (try simp only [Act.put, List.setIfInBounds_toArray, List.set_cons_zero, List.set_cons_succ])
      refine' wpAnyH_take (i := 9) (oi := _) (v := _) ?hi31 (by kernel_rfl) (by kernel_rfl) (by kernel_rfl) ?hq31 (Or.inl ⟨?hw31, ?hy31⟩) (by assumption) ?rest31
      case hi31 => (simp only [List.getElem?_toArray, List.getElem?_cons_succ, List.getElem?_cons_zero]; rfl)
      case hq31 => exact fun _ _ _ h => h
      case hw31 => rfl
      case hy31 => (intro wq hSw; (try dsimp only at hSw); go_simp; (try with_reducible rfl))
      (try simp only [Act.put, List.setIfInBounds_toArray, List.set_cons_zero, List.set_cons_succ])
      refine' wpAnyH_take (i := 10) (oi := _) (v := _) ?hi32 (by kernel_rfl) (by kernel_rfl) (by kernel_rfl) ?hq32 (Or.inl ⟨?hw32, ?hy32⟩) (by assumption) ?rest32
      case hi32 => (simp only [List.getElem?_toArray, List.getElem?_cons_succ, List.getElem?_cons_zero]; rfl)
      case hq32 => exact fun _ _ _ h => h
      case hw32 => rfl
      case hy32 => (intro wq hSw; (try dsimp only at hSw); go_simp; (try with_reducible rfl))
      (try simp only [Act.put, List.setIfInBounds_toArray, List.set_cons_zero, List.set_cons_succ])
      refine' wpAnyH_take (i := 11) (oi := _) (v := undef) ?hi33 (by kernel_rfl) (by kernel_rfl) (by kernel_rfl) ?hq33 (Or.inr ?hw33) (by assumption) ?rest33
      case hi33 => (simp only [List.getElem?_toArray, List.getElem?_cons_succ, List.getElem?_cons_zero]; rfl)
      case hq33 => exact fun _ _ _ h => h
      case hw33 => exact ⟨rfl, rfl⟩
      (try simp only [Act.put, List.setIfInBounds_toArray, List.set_cons_zero, List.set_cons_succ])
      refine' wpAnyH_take (i := 12) (oi := _) (v := undef) ?hi34 (by kernel_rfl) (by kernel_rfl) (by kernel_rfl) ?hq34 (Or.inr ?hw34) (by assumption) ?rest34
      case hi34 => (simp only [List.getElem?_toArray, List.getElem?_cons_succ, List.getElem?_cons_zero]; rfl)
      case hq34 => exact fun _ _ _ h => h
      case hw34 => exact ⟨rfl, rfl⟩
      (try simp only [Act.put, List.setIfInBounds_toArray, List.set_cons_zero, List.set_cons_succ])
      refine' wpAnyH_take (i := 13) (oi := _) (v := undef) ?hi35 (by kernel_rfl) (by kernel_rfl) (by kernel_rfl) ?hq35 (Or.inr ?hw35) (by assumption) ?rest35
      case hi35 => (simp only [List.getElem?_toArray, List.getElem?_cons_succ, List.getElem?_cons_zero]; rfl)
      case hq35 => exact fun _ _ _ h => h
      case hw35 => exact ⟨rfl, rfl⟩
      (try simp only [Act.put, List.setIfInBounds_toArray, List.set_cons_zero, List.set_cons_succ])
      refine' wpAnyH_take (i := 14) (oi := _) (v := undef) ?hi36 (by kernel_rfl) (by kernel_rfl) (by kernel_rfl) ?hq36 (Or.inr ?hw36) (by assumption) ?rest36
      case hi36 => (simp only [List.getElem?_toArray, List.getElem?_cons_succ, List.getElem?_cons_zero]; rfl)
      case hq36 => exact fun _ _ _ h => h
      case hw36 => exact ⟨rfl, rfl⟩
      (try simp only [Act.put, List.setIfInBounds_toArray, List.set_cons_zero, List.set_cons_succ])
      refine' wpAnyH_take (i := 15) (oi := _) (v := undef) ?hi37 (by kernel_rfl) (by kernel_rfl) (by kernel_rfl) ?hq37 (Or.inr ?hw37) (by assumption) ?rest37
      case hi37 => (simp only [List.getElem?_toArray, List.getElem?_cons_succ, List.getElem?_cons_zero]; rfl)
      case hq37 => exact fun _ _ _ h => h
      case hw37 => exact ⟨rfl, rfl⟩
      (try simp only [Act.put, List.setIfInBounds_toArray, List.set_cons_zero, List.set_cons_succ])
      refine' wpAnyH_take (i := 16) (oi := _) (v := undef) ?hi38 (by kernel_rfl) (by kernel_rfl) (by kernel_rfl) ?hq38 (Or.inr ?hw38) (by assumption) ?rest38
      case hi38 => (simp only [List.getElem?_toArray, List.getElem?_cons_succ, List.getElem?_cons_zero]; rfl)
      case hq38 => exact fun _ _ _ h => h
      case hw38 => exact ⟨rfl, rfl⟩
      (try simp only [Act.put, List.setIfInBounds_toArray, List.set_cons_zero, List.set_cons_succ])
      refine' wpAnyH_take (i := 17) (oi := _) (v := undef) ?hi39 (by kernel_rfl) (by kernel_rfl) (by kernel_rfl) ?hq39 (Or.inr ?hw39) (by assumption) ?rest39
      case hi39 => (simp only [List.getElem?_toArray, List.getElem?_cons_succ, List.getElem?_cons_zero]; rfl)
      case hq39 => exact fun _ _ _ h => h
      case hw39 => exact ⟨rfl, rfl⟩
      (try simp only [Act.put, List.setIfInBounds_toArray, List.set_cons_zero, List.set_cons_succ])
      refine' wpAnyH_take (i := 18) (oi := _) (v := undef) ?hi40 (by kernel_rfl) (by kernel_rfl) (by kernel_rfl) ?hq40 (Or.inr ?hw40) (by assumption) ?rest40
      case hi40 => (simp only [List.getElem?_toArray, List.getElem?_cons_succ, List.getElem?_cons_zero]; rfl)
      case hq40 => exact fun _ _ _ h => h
      case hw40 => exact ⟨rfl, rfl⟩
      (try simp only [Act.put, List.setIfInBounds_toArray, List.set_cons_zero, List.set_cons_succ])
      refine' wpAnyH_take (i := 19) (oi := _) (v := undef) ?hi41 (by kernel_rfl) (by kernel_rfl) (by kernel_rfl) ?hq41 (Or.inr ?hw41) (by assumption) ?rest41
      case hi41 => (simp only [List.getElem?_toArray, List.getElem?_cons_succ, List.getElem?_cons_zero]; rfl)
      case hq41 => exact fun _ _ _ h => h
      case hw41 => exact ⟨rfl, rfl⟩
      (try simp only [Act.put, List.setIfInBounds_toArray, List.set_cons_zero, List.set_cons_succ])
      refine' wpAnyH_take (i := 20) (oi := _) (v := _) ?hi42 (by kernel_rfl) (by kernel_rfl) (by kernel_rfl) ?hq42 (Or.inl ⟨?hw42, ?hy42⟩) (by assumption) ?rest42
      case hi42 => (simp only [List.getElem?_toArray, List.getElem?_cons_succ, List.getElem?_cons_zero]; rfl)
      case hq42 => exact fun _ _ _ h => h
      case hw42 => rfl
      case hy42 => (intro wq hSw; (try dsimp only at hSw); go_simp; (try with_reducible rfl))
      (try simp only [Act.put, List.setIfInBounds_toArray, List.set_cons_zero, List.set_cons_succ])
      refine wpAnyH_done (by kernel_rfl) ?_ _
      go_wp2
      go_ret
      exact ⟨ret_bool Hf.out.symm, HC.out.below⟩
  · have Hf : Hid (knOk R ks D = false) := Lib.hid (by rw [HV.out, decide_eq_false h1, Bool.false_and])
    clear HV
    go_enter Try.func31, Try.ntmps31
    go_upto_region 1 with fail
    generalize w.alloc (.cells #[.int .i64 R, .slice A N c, .int .i64 D] 32) = u0 at *
    have HC := Lib.hid S0.drew
    clear S0
    refine wp_region_held_drew (S := (fun w' => w'.cell? ⟨w.heap.size, 0, none⟩ = some (.int .i64 R) ∧ w'.cell? ⟨w.heap.size, 1, none⟩ = some (.slice A N c) ∧ w'.cell? ⟨w.heap.size, 2, none⟩ = some (.int .i64 D))) (by kernel_rfl) (by exact ⟨HC.out.b0_3.1, HC.out.b0_3.2.1, HC.out.b0_3.2.2⟩) (fun hHeld => ?_)
    refine' wpAnyH_take (i := 0) (oi := _) (v := _) ?hi1 (by kernel_rfl) (by kernel_rfl) (by kernel_rfl) ?hq1 (Or.inl ⟨?hw1, ?hy1⟩) (by assumption) ?rest1
    case hi1 => (simp only [List.getElem?_toArray, List.getElem?_cons_succ, List.getElem?_cons_zero]; rfl)
    case hq1 => exact fun _ _ _ h => h
    case hw1 => rfl
    case hy1 => (intro wq hSw; (try dsimp only at hSw); go_simp; (try with_reducible rfl))
    (try simp only [Act.put, List.setIfInBounds_toArray, List.set_cons_zero, List.set_cons_succ])
    refine' wpAnyH_take (i := 1) (oi := _) (v := _) ?hi2 (by kernel_rfl) (by kernel_rfl) (by kernel_rfl) ?hq2 (Or.inl ⟨?hw2, ?hy2⟩) (by assumption) ?rest2
    case hi2 => (simp only [List.getElem?_toArray, List.getElem?_cons_succ, List.getElem?_cons_zero]; rfl)
    case hq2 => exact fun _ _ _ h => h
    case hw2 => rfl
    case hy2 => (intro wq hSw; (try dsimp only at hSw); go_simp; (try with_reducible rfl))
    (try simp only [Act.put, List.setIfInBounds_toArray, List.set_cons_zero, List.set_cons_succ])
    refine wpAnyH_ready (rs := [2]) (by kernel_rfl) (by simp) ?_
    refine' AllReadyH.cons (o := _) ?hi3 (fun K hK => ?rest3) AllReadyH.nil
    case hi3 => (simp only [List.getElem?_toArray, List.getElem?_cons_succ, List.getElem?_cons_zero]; rfl)
    go_simp
    go_at_call 56
    refine (iIn_any R 0 2 _).mono ?_
    rintro e wa ⟨rfl, rfl⟩
    rw [decide_eq_false h1]
    refine hK.out _ _ (by (try dsimp only); exact ⟨HC.out.b0_3.1, HC.out.b0_3.2.1, HC.out.b0_3.2.2⟩) (fun hHeld => ?_)
    clear hK K
    (try simp only [Act.put, List.setIfInBounds_toArray, List.set_cons_zero, List.set_cons_succ])
    refine' wpAnyH_take (i := 3) (oi := _) (v := _) ?hi4 (by kernel_rfl) (by kernel_rfl) (by kernel_rfl) ?hq4 (Or.inl ⟨?hw4, ?hy4⟩) (by assumption) ?rest4
    case hi4 => (simp only [List.getElem?_toArray, List.getElem?_cons_succ, List.getElem?_cons_zero]; rfl)
    case hq4 => exact fun _ _ _ h => h
    case hw4 => rfl
    case hy4 => (intro wq hSw; (try dsimp only at hSw); go_simp; (try with_reducible rfl))
    (try simp only [Act.put, List.setIfInBounds_toArray, List.set_cons_zero, List.set_cons_succ])
    refine' wpAnyH_take (i := 4) (oi := _) (v := _) ?hi5 (by kernel_rfl) (by kernel_rfl) (by kernel_rfl) ?hq5 (Or.inl ⟨?hw5, ?hy5⟩) (by assumption) ?rest5
    case hi5 => (simp only [List.getElem?_toArray, List.getElem?_cons_succ, List.getElem?_cons_zero]; rfl)
    case hq5 => exact fun _ _ _ h => h
    case hw5 => rfl
    case hy5 => (intro wq hSw; (try dsimp only at hSw); go_simp; (try with_reducible rfl))
    (try simp only [Act.put, List.setIfInBounds_toArray, List.set_cons_zero, List.set_cons_succ])
    refine' wpAnyH_take (i := 5) (oi := _) (v := undef) ?hi6 (by kernel_rfl) (by kernel_rfl) (by kernel_rfl) ?hq6 (Or.inr ?hw6) (by assumption) ?rest6
    case hi6 => (simp only [List.getElem?_toArray, List.getElem?_cons_succ, List.getElem?_cons_zero]; rfl)
    case hq6 => exact fun _ _ _ h => h
    case hw6 => exact ⟨rfl, rfl⟩
    (try simp only [Act.put, List.setIfInBounds_toArray, List.set_cons_zero, List.set_cons_succ])
    refine' wpAnyH_take (i := 6) (oi := _) (v := undef) ?hi7 (by kernel_rfl) (by kernel_rfl) (by kernel_rfl) ?hq7 (Or.inr ?hw7) (by assumption) ?rest7
    case hi7 => (simp only [List.getElem?_toArray, List.getElem?_cons_succ, List.getElem?_cons_zero]; rfl)
    case hq7 => exact fun _ _ _ h => h
    case hw7 => exact ⟨rfl, rfl⟩
    (try simp only [Act.put, List.setIfInBounds_toArray, List.set_cons_zero, List.set_cons_succ])
    refine' wpAnyH_take (i := 7) (oi := _) (v := undef) ?hi8 (by kernel_rfl) (by kernel_rfl) (by kernel_rfl) ?hq8 (Or.inr ?hw8) (by assumption) ?rest8
    case hi8 => (simp only [List.getElem?_toArray, List.getElem?_cons_succ, List.getElem?_cons_zero]; rfl)
    case hq8 => exact fun _ _ _ h => h
    case hw8 => exact ⟨rfl, rfl⟩
    (try simp only [Act.put, List.setIfInBounds_toArray, List.set_cons_zero, List.set_cons_succ])
    refine' wpAnyH_take (i := 8) (oi := _) (v := undef) ?hi9 (by kernel_rfl) (by kernel_rfl) (by kernel_rfl) ?hq9 (Or.inr ?hw9) (by assumption) ?rest9
    case hi9 => (simp only [List.getElem?_toArray, List.getElem?_cons_succ, List.getElem?_cons_zero]; rfl)
    case hq9 => exact fun _ _ _ h => h
    case hw9 => exact ⟨rfl, rfl⟩
    (try simp only [Act.put, List.setIfInBounds_toArray, List.set_cons_zero, List.set_cons_succ])
    refine' wpAnyH_take (i := 9) (oi := _) (v := _) ?hi10 (by kernel_rfl) (by kernel_rfl) (by kernel_rfl) ?hq10 (Or.inl ⟨?hw10, ?hy10⟩) (by assumption) ?rest10
    case hi10 => (simp only [List.getElem?_toArray, List.getElem?_cons_succ, List.getElem?_cons_zero]; rfl)
    case hq10 => exact fun _ _ _ h => h
    case hw10 => rfl
    case hy10 => (intro wq hSw; (try dsimp only at hSw); go_simp; (try with_reducible rfl))
    (try simp only [Act.put, List.setIfInBounds_toArray, List.set_cons_zero, List.set_cons_succ])
    refine' wpAnyH_take (i := 10) (oi := _) (v := _) ?hi11 (by kernel_rfl) (by kernel_rfl) (by kernel_rfl) ?hq11 (Or.inl ⟨?hw11, ?hy11⟩) (by assumption) ?rest11
    case hi11 => (simp only [List.getElem?_toArray, List.getElem?_cons_succ, List.getElem?_cons_zero]; rfl)
    case hq11 => exact fun _ _ _ h => h
    case hw11 => rfl
    case hy11 => (intro wq hSw; (try dsimp only at hSw); go_simp; (try with_reducible rfl))
    (try simp only [Act.put, List.setIfInBounds_toArray, List.set_cons_zero, List.set_cons_succ])
    refine' wpAnyH_take (i := 11) (oi := _) (v := undef) ?hi12 (by kernel_rfl) (by kernel_rfl) (by kernel_rfl) ?hq12 (Or.inr ?hw12) (by assumption) ?rest12
    case hi12 => (simp only [List.getElem?_toArray, List.getElem?_cons_succ, List.getElem?_cons_zero]; rfl)
    case hq12 => exact fun _ _ _ h => h
    case hw12 => exact ⟨rfl, rfl⟩
    (try simp only [Act.put, List.setIfInBounds_toArray, List.set_cons_zero, List.set_cons_succ])
    refine' wpAnyH_take (i := 12) (oi := _) (v := undef) ?hi13 (by kernel_rfl) (by kernel_rfl) (by kernel_rfl) ?hq13 (Or.inr ?hw13) (by assumption) ?rest13
    case hi13 => (simp only [List.getElem?_toArray, List.getElem?_cons_succ, List.getElem?_cons_zero]; rfl)
    case hq13 => exact fun _ _ _ h => h
    case hw13 => exact ⟨rfl, rfl⟩
    (try simp only [Act.put, List.setIfInBounds_toArray, List.set_cons_zero, List.set_cons_succ])
    refine' wpAnyH_take (i := 13) (oi := _) (v := undef) ?hi14 (by kernel_rfl) (by kernel_rfl) (by kernel_rfl) ?hq14 (Or.inr ?hw14) (by assumption) ?rest14
    case hi14 => (simp only [List.getElem?_toArray, List.getElem?_cons_succ, List.getElem?_cons_zero]; rfl)
    case hq14 => exact fun _ _ _ h => h
    case hw14 => exact ⟨rfl, rfl⟩
    (try simp only [Act.put, List.setIfInBounds_toArray, List.set_cons_zero, List.set_cons_succ])
    refine' wpAnyH_take (i := 14) (oi := _) (v := undef) ?hi15 (by kernel_rfl) (by kernel_rfl) (by kernel_rfl) ?hq15 (Or.inr ?hw15) (by assumption) ?rest15
    case hi15 => (simp only [List.getElem?_toArray, List.getElem?_cons_succ, List.getElem?_cons_zero]; rfl)
    case hq15 => exact fun _ _ _ h => h
    case hw15 => exact ⟨rfl, rfl⟩
    (try simp only [Act.put, List.setIfInBounds_toArray, List.set_cons_zero, List.set_cons_succ])
    refine' wpAnyH_take (i := 15) (oi := _) (v := undef) ?hi16 (by kernel_rfl) (by kernel_rfl) (by kernel_rfl) ?hq16 (Or.inr ?hw16) (by assumption) ?rest16
    case hi16 => (simp only [List.getElem?_toArray, List.getElem?_cons_succ, List.getElem?_cons_zero]; rfl)
    case hq16 => exact fun _ _ _ h => h
    case hw16 => exact ⟨rfl, rfl⟩
    (try simp only [Act.put, List.setIfInBounds_toArray, List.set_cons_zero, List.set_cons_succ])
    refine' wpAnyH_take (i := 16) (oi := _) (v := undef) ?hi17 (by kernel_rfl) (by kernel_rfl) (by kernel_rfl) ?hq17 (Or.inr ?hw17) (by assumption) ?rest17
    case hi17 => (simp only [List.getElem?_toArray, List.getElem?_cons_succ, List.getElem?_cons_zero]; rfl)
    case hq17 => exact fun _ _ _ h => h
    case hw17 => exact ⟨rfl, rfl⟩
    (try simp only [Act.put, List.setIfInBounds_toArray, List.set_cons_zero, List.set_cons_succ])
    refine' wpAnyH_take (i := 17) (oi := _) (v := undef) ?hi18 (by kernel_rfl) (by kernel_rfl) (by kernel_rfl) ?hq18 (Or.inr ?hw18) (by assumption) ?rest18
    case hi18 => (simp only [List.getElem?_toArray, List.getElem?_cons_succ, List.getElem?_cons_zero]; rfl)
    case hq18 => exact fun _ _ _ h => h
    case hw18 => exact ⟨rfl, rfl⟩
    (try simp only [Act.put, List.setIfInBounds_toArray, List.set_cons_zero, List.set_cons_succ])
    refine' wpAnyH_take (i := 18) (oi := _) (v := undef) ?hi19 (by kernel_rfl) (by kernel_rfl) (by kernel_rfl) ?hq19 (Or.inr ?hw19) (by assumption) ?rest19
    case hi19 => (simp only [List.getElem?_toArray, List.getElem?_cons_succ, List.getElem?_cons_zero]; rfl)
    case hq19 => exact fun _ _ _ h => h
    case hw19 => exact ⟨rfl, rfl⟩
    (try simp only [Act.put, List.setIfInBounds_toArray, List.set_cons_zero, List.set_cons_succ])
    refine' wpAnyH_take (i := 19) (oi := _) (v := undef) ?hi20 (by kernel_rfl) (by kernel_rfl) (by kernel_rfl) ?hq20 (Or.inr ?hw20) (by assumption) ?rest20
    case hi20 => (simp only [List.getElem?_toArray, List.getElem?_cons_succ, List.getElem?_cons_zero]; rfl)
    case hq20 => exact fun _ _ _ h => h
    case hw20 => exact ⟨rfl, rfl⟩
    (try simp only [Act.put, List.setIfInBounds_toArray, List.set_cons_zero, List.set_cons_succ])
    refine' wpAnyH_take (i := 20) (oi := _) (v := _) ?hi21 (by kernel_rfl) (by kernel_rfl) (by kernel_rfl) ?hq21 (Or.inl ⟨?hw21, ?hy21⟩) (by assumption) ?rest21
    case hi21 => (simp only [List.getElem?_toArray, List.getElem?_cons_succ, List.getElem?_cons_zero]; rfl)
    case hq21 => exact fun _ _ _ h => h
    case hw21 => rfl
    case hy21 => (intro wq hSw; (try dsimp only at hSw); go_simp; (try with_reducible rfl))
    (try simp only [Act.put, List.setIfInBounds_toArray, List.set_cons_zero, List.set_cons_succ])
    refine wpAnyH_done (by kernel_rfl) ?_ _
    go_wp2
    go_ret
    exact ⟨ret_bool Hf.out.symm, HC.out.below⟩
set_option maxHeartbeats 16000000 in
theorem iSum_any (W H R D n : Nat) (hn : W * H = n) (hW1 : 1 ≤ W) (hW : W ≤ 16) (hH1 : 1 ≤ H) (hH : H ≤ 16) (hR2 : R ≤ 2) (Ak : Option Addr) (ck : Nat) (ks : List Int) (N : Nat) (hN : N = ks.length) (hkl : N ≤ 25) (hkb : ∀ j, j < ks.length → -99 ≤ ks.getD j 0 ∧ ks.getD j 0 ≤ 99) (A : Option Addr) (c : Nat) (f : Nat → Nat → Int) (hf : ∀ x y, x < W → y < H → 0 ≤ f x y ∧ f x y ≤ 255) (hc : n ≤ c) (x y : Nat) (hx : x < W) (hy : y < H) (w : World) (hk : Rds .i64 w w.heap.size Ak ks) (hr : Rds .i64 w w.heap.size A (grN W H f)) :
    Calls Try.prog 38 #[.agg #[.int .i64 (R : Int), .slice Ak N ck, .int .i64 (D : Int)], .agg #[.int .i64 (W : Int), .int .i64 (H : Int), .slice A n c], .int .i64 (x : Int), .int .i64 (y : Int)] w fun e w' => e = .returned (.int .i64 (cvS f W H R ks x y ks.length)) ∧ Below w.heap.size w w' := by
  have Hk := Lib.hid hk
  have Hg := Lib.hid hr
  have Hn := Lib.hid hn
  have HF := Lib.hid hf
  have HKb := Lib.hid hkb
  obtain ⟨T, hT⟩ : ∃ T, T = cvS f W H R ks x y := ⟨_, rfl⟩
  have HTb : Hid (∀ k, k ≤ ks.length → -(25245 * (k : Int)) ≤ T k ∧ T k ≤ 25245 * (k : Int)) := Lib.hid (fun k hk => by rw [hT]; exact cvS_bd hW1 hH1 hf hkb x y k hk)
  have HT0 : Hid (T 0 = 0) := Lib.hid (by rw [hT]; rfl)
  have HTn : Hid (∀ k, T (k + 1) = T k + ks.getD k 0 * f (cvc R x (k % (2 * R + 1)) 0 W) (cvc R y (k / (2 * R + 1)) 0 H)) := Lib.hid (fun k => by rw [hT]; rfl)
  have HTe : Hid (T ks.length = cvS f W H R ks x y ks.length) := Lib.hid (by rw [hT])
  have S0 : GS w ((w.alloc (.cells #[.int .i64 (R : Int), .slice Ak N ck, .int .i64 (D : Int)] 32)).alloc (.cells #[.int .i64 (W : Int), .int .i64 (H : Int), .slice A n c] 59)) [] [⟨w.heap.size + 1, 59, #[.int .i64 (W : Int), .int .i64 (H : Int), .slice A n c]⟩, ⟨w.heap.size, 32, #[.int .i64 (R : Int), .slice Ak N ck, .int .i64 (D : Int)]⟩] := GS.box' (GS.box' (GS.start w) _ _ w.heap.size rfl) _ _ (w.heap.size + 1) (by simp)
  have HS := Lib.hid S0
  obtain ⟨S, hS⟩ : ∃ S, S = 2 * R + 1 := ⟨_, rfl⟩
  have HSd : Hid (2 * R + 1 = S) := Lib.hid hS.symm
  have hS1 : 1 ≤ S := by omega
  have hS5 : S ≤ 5 := by omega
  have HN := Lib.hid hN
  clear hk hr hn hf hkb hT S0 hS hN
  rw [← HTe.out]
  obtain ⟨b0, b1, b2⟩ := HS.out.b1_3
  go_enter Try.func38, Try.ntmps38
  go_wp2
  generalize (w.alloc (.cells #[.int .i64 (R : Int), .slice Ak N ck, .int .i64 (D : Int)] 32)).alloc (.cells #[.int .i64 (W : Int), .int .i64 (H : Int), .slice A n c] 59) = u0 at *
  go_loopw [9, 10, 11, 12, 13, 17] (fun s _ _ _ _ i wr => ∃ k : Nat, k ≤ N ∧ i = .int .i64 (k : Int) ∧ s = .int .i64 (T k) ∧ Hid (GS w wr [] [⟨w.heap.size + 1, 59, #[.int .i64 (W : Int), .int .i64 (H : Int), .slice A n c]⟩, ⟨w.heap.size, 32, #[.int .i64 (R : Int), .slice Ak N ck, .int .i64 (D : Int)]⟩])) (fun _ _ _ _ _ i _ => N - (intOf i).toNat)
  case atStart => exact ⟨0, Nat.zero_le _, rfl, by rw [HT0.out], HS⟩
  case round =>
    clear HS b0 b1 b2
    obtain ⟨k, hk, rfl, rfl, HS⟩ := hrel
    by_cases hlt : k < N
    · obtain ⟨b, off, rfl, hb, hcc⟩ := (HS.out.arg Hk.out).cells_ (j := k) (by have := HN.out; omega)
      have hck := hcc k (by have := HN.out; omega)
      have hzb := HKb.out k (by have := HN.out; omega)
      have hTk := HTb.out k (by have := HN.out; omega)
      obtain ⟨qa, hqa⟩ : ∃ q, q = k % S := ⟨_, rfl⟩
      obtain ⟨qb, hqb⟩ : ∃ q, q = k / S := ⟨_, rfl⟩
      obtain ⟨cx, hcx0⟩ : ∃ q, q = cvc R x qa 0 W := ⟨_, rfl⟩
      obtain ⟨cy, hcy0⟩ : ∃ q, q = cvc R y qb 0 H := ⟨_, rfl⟩
      have hcx : cx < W := by rw [hcx0]; exact cvc_lt hW1
      have hcy : cy < H := by rw [hcy0]; exact cvc_lt hH1
      have hfb := HF.out cx cy hcx hcy
      obtain ⟨fv, hfv⟩ : ∃ v, f cx cy = v := ⟨_, rfl⟩
      have HFv := Lib.hid hfv
      obtain ⟨z, hz⟩ : ∃ z, z = ks.getD k 0 := ⟨_, rfl⟩
      obtain ⟨tk, htk⟩ : ∃ t, t = T k := ⟨_, rfl⟩
      obtain ⟨pr, hpr⟩ : ∃ p, z * fv = p := ⟨_, rfl⟩
      have HTn1 : Hid (T (k + 1) = tk + pr) := Lib.hid (by rw [HTn.out k, HSd.out, ← hqa, ← hqb, ← hcx0, ← hcy0, hfv, ← hz, ← htk, hpr])
      have hTk1 := HTb.out (k + 1) (by have := HN.out; omega)
      rw [HTn1.out] at hTk1
      rw [hfv] at hfb
      rw [← hz] at hck hzb
      rw [← htk] at hTk ⊢
      have hpb : -30000 ≤ pr ∧ pr ≤ 30000 := by
        have a1 : z * fv ≤ 99 * fv := Int.mul_le_mul_of_nonneg_right hzb.2 hfb.1
        have a2 : -99 * fv ≤ z * fv := Int.mul_le_mul_of_nonneg_right hzb.1 hfb.1
        omega
      have hqa5 : qa < 5 := by rw [hqa]; exact Nat.lt_of_lt_of_le (Nat.mod_lt _ (by omega)) hS5
      have hqb25 : qb ≤ 25 := by rw [hqb]; exact Nat.le_trans (Nat.div_le_self _ _) (by omega)
      have e1 : Int.tmod (k : Int) (S : Int) = (qa : Int) := by rw [Int.tmod_eq_emod_of_nonneg (by omega), hqa]; rfl
      have e2 : Int.tdiv (k : Int) (S : Int) = (qb : Int) := by rw [Int.tdiv_eq_ediv_of_nonneg (by omega), hqb]; rfl
      have wa := wr_natC (n := qa) (by omega)
      have wb := wr_natC (n := qb) (by omega)
      obtain ⟨dx, hdx⟩ : ∃ d : Int, (x : Int) - (R : Int) = d := ⟨_, rfl⟩
      obtain ⟨dy, hdy⟩ : ∃ d : Int, (y : Int) - (R : Int) = d := ⟨_, rfl⟩
      obtain ⟨ex, hex⟩ : ∃ d : Int, dx + (qa : Int) = d := ⟨_, rfl⟩
      obtain ⟨ey, hey⟩ : ∃ d : Int, dy + (qb : Int) = d := ⟨_, rfl⟩
      obtain ⟨W1, hWW⟩ : ∃ d : Int, (W : Int) - 1 = d := ⟨_, rfl⟩
      obtain ⟨H1, hHH⟩ : ∃ d : Int, (H : Int) - 1 = d := ⟨_, rfl⟩
      have HLx : Hid (lim ex 0 W1 = (cx : Int)) := Lib.hid (by rw [hcx0, cvc_eq hW1, ← hex, ← hdx, ← hWW])
      have HLy : Hid (lim ey 0 H1 = (cy : Int)) := Lib.hid (by rw [hcy0, cvc_eq hH1, ← hey, ← hdy, ← hHH])
      have v1 : IntKind.i64.wrap dx = dx := IntWalk.i64_in _ (by omega)
      have v2 : IntKind.i64.wrap dy = dy := IntWalk.i64_in _ (by omega)
      have v3 : IntKind.i64.wrap ex = ex := IntWalk.i64_in _ (by omega)
      have v4 : IntKind.i64.wrap ey = ey := IntWalk.i64_in _ (by omega)
      have v5 : IntKind.i64.wrap W1 = W1 := IntWalk.i64_in _ (by omega)
      have v6 : IntKind.i64.wrap H1 = H1 := IntWalk.i64_in _ (by omega)
      have v7 : IntKind.i64.wrap pr = pr := IntWalk.i64_in _ (by omega)
      have v8 : IntKind.i64.wrap (tk + pr) = tk + pr := IntWalk.i64_in _ (by omega)
      have hSn : ¬ (S : Int) = 0 := by omega
      have hSn2 : ¬ S = 0 := by omega
      clear hcc hb hqa hqb hcx0 hcy0 hfv hz htk hTk hTk1
      obtain ⟨b0, b1, b2⟩ := HS.out.b1_3
      go_upto_region 5 with fail
      clear b0 b1 b2
      have HC := Lib.hid HS.out.drew
      clear HS
      refine wp_region_held_drew (S := (fun w' => w'.cell? ⟨w.heap.size, 0, none⟩ = some (.int .i64 (R : Int)) ∧ w'.cell? ⟨w.heap.size, 1, none⟩ = some (.slice (some ⟨b, off, none⟩) N ck) ∧ w'.cell? ⟨w.heap.size, 2, none⟩ = some (.int .i64 (D : Int)) ∧ w'.cell? ⟨(w.heap.size + 1), 0, none⟩ = some (.int .i64 (W : Int)) ∧ w'.cell? ⟨(w.heap.size + 1), 1, none⟩ = some (.int .i64 (H : Int)) ∧ w'.cell? ⟨(w.heap.size + 1), 2, none⟩ = some (.slice A n c))) (by kernel_rfl) (by exact ⟨HC.out.b1_3.1, HC.out.b1_3.2.1, HC.out.b1_3.2.2, HC.out.b0_3.1, HC.out.b0_3.2.1, HC.out.b0_3.2.2⟩) (fun hHeld => ?_)
      refine' wpAnyH_take (i := 0) (oi := _) (v := _) ?hi64 (by kernel_rfl) (by kernel_rfl) (by kernel_rfl) ?hq64 (Or.inl ⟨?hw64, ?hy64⟩) (by assumption) ?rest64
      case hi64 => (simp only [List.getElem?_toArray, List.getElem?_cons_succ, List.getElem?_cons_zero]; rfl)
      case hq64 => exact fun _ _ _ h => h
      case hw64 => rfl
      case hy64 => (intro wq hSw; (try dsimp only at hSw); go_simp; (try with_reducible rfl))
      (try simp only [Act.put, List.setIfInBounds_toArray, List.set_cons_zero, List.set_cons_succ])
      refine' wpAnyH_take (i := 1) (oi := _) (v := _) ?hi65 (by kernel_rfl) (by kernel_rfl) (by kernel_rfl) ?hq65 (Or.inl ⟨?hw65, ?hy65⟩) (by assumption) ?rest65
      case hi65 => (simp only [List.getElem?_toArray, List.getElem?_cons_succ, List.getElem?_cons_zero]; rfl)
      case hq65 => exact fun _ _ _ h => h
      case hw65 => rfl
      case hy65 => (intro wq hSw; (try dsimp only at hSw); go_simp; (try with_reducible rfl))
      (try simp only [Act.put, List.setIfInBounds_toArray, List.set_cons_zero, List.set_cons_succ])
      refine' wpAnyH_take (i := 2) (oi := _) (v := _) ?hi66 (by kernel_rfl) (by kernel_rfl) (by kernel_rfl) ?hq66 (Or.inl ⟨?hw66, ?hy66⟩) (by assumption) ?rest66
      case hi66 => (simp only [List.getElem?_toArray, List.getElem?_cons_succ, List.getElem?_cons_zero]; rfl)
      case hq66 => exact fun _ _ _ h => h
      case hw66 => rfl
      case hy66 => (intro wq hSw; (try dsimp only at hSw); go_simp; (try with_reducible rfl))
      (try simp only [Act.put, List.setIfInBounds_toArray, List.set_cons_zero, List.set_cons_succ])
      refine' wpAnyH_take (i := 3) (oi := _) (v := _) ?hi67 (by kernel_rfl) (by kernel_rfl) (by kernel_rfl) ?hq67 (Or.inl ⟨?hw67, ?hy67⟩) (by assumption) ?rest67
      case hi67 => (simp only [List.getElem?_toArray, List.getElem?_cons_succ, List.getElem?_cons_zero]; rfl)
      case hq67 => exact fun _ _ _ h => h
      case hw67 => rfl
      case hy67 => (intro wq hSw; (try dsimp only at hSw); go_simp; (try with_reducible rfl))
      (try simp only [Act.put, List.setIfInBounds_toArray, List.set_cons_zero, List.set_cons_succ])
      refine' wpAnyH_take (i := 4) (oi := _) (v := _) ?hi68 (by kernel_rfl) (by kernel_rfl) (by kernel_rfl) ?hq68 (Or.inl ⟨?hw68, ?hy68⟩) (by assumption) ?rest68
      case hi68 => (simp only [List.getElem?_toArray, List.getElem?_cons_succ, List.getElem?_cons_zero]; rfl)
      case hq68 => exact fun _ _ _ h => h
      case hw68 => rfl
      case hy68 => (intro wq hSw; (try dsimp only at hSw); go_simp; (try with_reducible rfl))
      (try simp only [Act.put, List.setIfInBounds_toArray, List.set_cons_zero, List.set_cons_succ])
      refine' wpAnyH_take (i := 5) (oi := _) (v := _) ?hi69 (by kernel_rfl) (by kernel_rfl) (by kernel_rfl) ?hq69 (Or.inl ⟨?hw69, ?hy69⟩) (by assumption) ?rest69
      case hi69 => (simp only [List.getElem?_toArray, List.getElem?_cons_succ, List.getElem?_cons_zero]; rfl)
      case hq69 => exact fun _ _ _ h => h
      case hw69 => rfl
      case hy69 => (intro wq hSw; (try dsimp only at hSw); go_simp; (try with_reducible rfl))
      (try simp only [Act.put, List.setIfInBounds_toArray, List.set_cons_zero, List.set_cons_succ])
      refine wpAnyH_ready (rs := [6]) (by kernel_rfl) (by simp) ?_
      refine' AllReadyH.cons (o := _) ?hi70 (fun K hK => ?rest70) AllReadyH.nil
      case hi70 => (simp only [List.getElem?_toArray, List.getElem?_cons_succ, List.getElem?_cons_zero]; rfl)
      go_simp
      go_at_call 63
      refine (iSide_any R S HSd.out (some ⟨b, off, none⟩) ck N (D : Int) hR2 _).mono ?_
      rintro e wa ⟨rfl, hB⟩
      have HD := Lib.hid (HC.out.call hB)
      clear HC hB
      have HC := HD
      clear HD
      refine hK.out _ _ (by (try dsimp only); exact ⟨HC.out.b1_3.1, HC.out.b1_3.2.1, HC.out.b1_3.2.2, HC.out.b0_3.1, HC.out.b0_3.2.1, HC.out.b0_3.2.2⟩) (fun hHeld => ?_)
      clear hK K
      (try simp only [Act.put, List.setIfInBounds_toArray, List.set_cons_zero, List.set_cons_succ])
      refine' wpAnyH_take (i := 7) (oi := _) (v := _) ?hi71 (by kernel_rfl) (by kernel_rfl) (by kernel_rfl) ?hq71 (Or.inl ⟨?hw71, ?hy71⟩) (by assumption) ?rest71
      case hi71 => (simp only [List.getElem?_toArray, List.getElem?_cons_succ, List.getElem?_cons_zero]; rfl)
      case hq71 => exact fun _ _ _ h => h
      case hw71 => rfl
      case hy71 => (intro wq hSw; (try dsimp only at hSw); go_simp; (try with_reducible rfl))
      (try simp only [Act.put, List.setIfInBounds_toArray, List.set_cons_zero, List.set_cons_succ])
      refine' wpAnyH_take (i := 8) (oi := _) (v := _) ?hi72 (by kernel_rfl) (by kernel_rfl) (by kernel_rfl) ?hq72 (Or.inl ⟨?hw72, ?hy72⟩) (by assumption) ?rest72
      case hi72 => (simp only [List.getElem?_toArray, List.getElem?_cons_succ, List.getElem?_cons_zero]; rfl)
      case hq72 => exact fun _ _ _ h => h
      case hw72 => rfl
      case hy72 => (intro wq hSw; (try dsimp only at hSw); go_simp; (try with_reducible rfl))
      (try simp only [Act.put, List.setIfInBounds_toArray, List.set_cons_zero, List.set_cons_succ])
      refine' wpAnyH_take (i := 9) (oi := _) (v := _) ?hi73 (by kernel_rfl) (by kernel_rfl) (by kernel_rfl) ?hq73 (Or.inl ⟨?hw73, ?hy73⟩) (by assumption) ?rest73
      case hi73 => (simp only [List.getElem?_toArray, List.getElem?_cons_succ, List.getElem?_cons_zero]; rfl)
      case hq73 => exact fun _ _ _ h => h
      case hw73 => rfl
      case hy73 => (intro wq hSw; (try dsimp only at hSw); go_simp; (try with_reducible rfl))
      (try simp only [Act.put, List.setIfInBounds_toArray, List.set_cons_zero, List.set_cons_succ])
      refine wpAnyH_done (by kernel_rfl) ?_ _
      go_upto_region 6 with fail
      have HD := Lib.hid HC.out.drew
      clear HC
      have HC := HD
      clear HD
      refine wp_region_held_drew (S := (fun w' => w'.cell? ⟨w.heap.size, 0, none⟩ = some (.int .i64 (R : Int)) ∧ w'.cell? ⟨w.heap.size, 1, none⟩ = some (.slice (some ⟨b, off, none⟩) N ck) ∧ w'.cell? ⟨w.heap.size, 2, none⟩ = some (.int .i64 (D : Int)) ∧ w'.cell? ⟨(w.heap.size + 1), 0, none⟩ = some (.int .i64 (W : Int)) ∧ w'.cell? ⟨(w.heap.size + 1), 1, none⟩ = some (.int .i64 (H : Int)) ∧ w'.cell? ⟨(w.heap.size + 1), 2, none⟩ = some (.slice A n c))) (by kernel_rfl) (by exact ⟨HC.out.b1_3.1, HC.out.b1_3.2.1, HC.out.b1_3.2.2, HC.out.b0_3.1, HC.out.b0_3.2.1, HC.out.b0_3.2.2⟩) (fun hHeld => ?_)
      refine' wpAnyH_take (i := 0) (oi := _) (v := _) ?hi74 (by kernel_rfl) (by kernel_rfl) (by kernel_rfl) ?hq74 (Or.inl ⟨?hw74, ?hy74⟩) (by assumption) ?rest74
      case hi74 => (simp only [List.getElem?_toArray, List.getElem?_cons_succ, List.getElem?_cons_zero]; rfl)
      case hq74 => exact fun _ _ _ h => h
      case hw74 => rfl
      case hy74 => (intro wq hSw; (try dsimp only at hSw); go_simp; (try with_reducible rfl))
      (try simp only [Act.put, List.setIfInBounds_toArray, List.set_cons_zero, List.set_cons_succ])
      refine' wpAnyH_take (i := 1) (oi := _) (v := _) ?hi75 (by kernel_rfl) (by kernel_rfl) (by kernel_rfl) ?hq75 (Or.inl ⟨?hw75, ?hy75⟩) (by assumption) ?rest75
      case hi75 => (simp only [List.getElem?_toArray, List.getElem?_cons_succ, List.getElem?_cons_zero]; rfl)
      case hq75 => exact fun _ _ _ h => h
      case hw75 => rfl
      case hy75 => (intro wq hSw; (try dsimp only at hSw); go_simp; (try with_reducible rfl))
      (try simp only [Act.put, List.setIfInBounds_toArray, List.set_cons_zero, List.set_cons_succ])
      refine' wpAnyH_take (i := 2) (oi := _) (v := _) ?hi76 (by kernel_rfl) (by kernel_rfl) (by kernel_rfl) ?hq76 (Or.inl ⟨?hw76, ?hy76⟩) (by assumption) ?rest76
      case hi76 => (simp only [List.getElem?_toArray, List.getElem?_cons_succ, List.getElem?_cons_zero]; rfl)
      case hq76 => exact fun _ _ _ h => h
      case hw76 => rfl
      case hy76 => (intro wq hSw; (try dsimp only at hSw); go_simp; (try with_reducible rfl))
      (try simp only [Act.put, List.setIfInBounds_toArray, List.set_cons_zero, List.set_cons_succ])
      refine' wpAnyH_take (i := 3) (oi := _) (v := _) ?hi77 (by kernel_rfl) (by kernel_rfl) (by kernel_rfl) ?hq77 (Or.inl ⟨?hw77, ?hy77⟩) (by assumption) ?rest77
      case hi77 => (simp only [List.getElem?_toArray, List.getElem?_cons_succ, List.getElem?_cons_zero]; rfl)
      case hq77 => exact fun _ _ _ h => h
      case hw77 => rfl
      case hy77 => (intro wq hSw; (try dsimp only at hSw); go_simp; (try with_reducible rfl))
      (try simp only [Act.put, List.setIfInBounds_toArray, List.set_cons_zero, List.set_cons_succ])
      refine' wpAnyH_take (i := 4) (oi := _) (v := _) ?hi78 (by kernel_rfl) (by kernel_rfl) (by kernel_rfl) ?hq78 (Or.inl ⟨?hw78, ?hy78⟩) (by assumption) ?rest78
      case hi78 => (simp only [List.getElem?_toArray, List.getElem?_cons_succ, List.getElem?_cons_zero]; rfl)
      case hq78 => exact fun _ _ _ h => h
      case hw78 => rfl
      case hy78 => (intro wq hSw; (try dsimp only at hSw); go_simp; (try with_reducible rfl))
      (try simp only [Act.put, List.setIfInBounds_toArray, List.set_cons_zero, List.set_cons_succ])
      refine' wpAnyH_take (i := 5) (oi := _) (v := _) ?hi79 (by kernel_rfl) (by kernel_rfl) (by kernel_rfl) ?hq79 (Or.inl ⟨?hw79, ?hy79⟩) (by assumption) ?rest79
      case hi79 => (simp only [List.getElem?_toArray, List.getElem?_cons_succ, List.getElem?_cons_zero]; rfl)
      case hq79 => exact fun _ _ _ h => h
      case hw79 => rfl
      case hy79 => (intro wq hSw; (try dsimp only at hSw); go_simp; (try with_reducible rfl))
      (try simp only [Act.put, List.setIfInBounds_toArray, List.set_cons_zero, List.set_cons_succ])
      refine wpAnyH_ready (rs := [6]) (by kernel_rfl) (by simp) ?_
      refine' AllReadyH.cons (o := _) ?hi80 (fun K hK => ?rest80) AllReadyH.nil
      case hi80 => (simp only [List.getElem?_toArray, List.getElem?_cons_succ, List.getElem?_cons_zero]; rfl)
      go_simp
      go_at_call 63
      refine (iSide_any R S HSd.out (some ⟨b, off, none⟩) ck N (D : Int) hR2 _).mono ?_
      rintro e wb ⟨rfl, hB⟩
      have HD := Lib.hid (HC.out.call hB)
      clear HC hB
      have HC := HD
      clear HD
      refine hK.out _ _ (by (try dsimp only); exact ⟨HC.out.b1_3.1, HC.out.b1_3.2.1, HC.out.b1_3.2.2, HC.out.b0_3.1, HC.out.b0_3.2.1, HC.out.b0_3.2.2⟩) (fun hHeld => ?_)
      clear hK K
      (try simp only [Act.put, List.setIfInBounds_toArray, List.set_cons_zero, List.set_cons_succ])
      refine' wpAnyH_take (i := 7) (oi := _) (v := _) ?hi81 (by kernel_rfl) (by kernel_rfl) (by kernel_rfl) ?hq81 (Or.inl ⟨?hw81, ?hy81⟩) (by assumption) ?rest81
      case hi81 => (simp only [List.getElem?_toArray, List.getElem?_cons_succ, List.getElem?_cons_zero]; rfl)
      case hq81 => exact fun _ _ _ h => h
      case hw81 => rfl
      case hy81 => (intro wq hSw; (try dsimp only at hSw); go_simp; (try with_reducible rfl))
      (try simp only [Act.put, List.setIfInBounds_toArray, List.set_cons_zero, List.set_cons_succ])
      refine' wpAnyH_take (i := 8) (oi := _) (v := _) ?hi82 (by kernel_rfl) (by kernel_rfl) (by kernel_rfl) ?hq82 (Or.inl ⟨?hw82, ?hy82⟩) (by assumption) ?rest82
      case hi82 => (simp only [List.getElem?_toArray, List.getElem?_cons_succ, List.getElem?_cons_zero]; rfl)
      case hq82 => exact fun _ _ _ h => h
      case hw82 => rfl
      case hy82 => (intro wq hSw; (try dsimp only at hSw); go_simp; (try with_reducible rfl))
      (try simp only [Act.put, List.setIfInBounds_toArray, List.set_cons_zero, List.set_cons_succ])
      refine' wpAnyH_take (i := 9) (oi := _) (v := _) ?hi83 (by kernel_rfl) (by kernel_rfl) (by kernel_rfl) ?hq83 (Or.inl ⟨?hw83, ?hy83⟩) (by assumption) ?rest83
      case hi83 => (simp only [List.getElem?_toArray, List.getElem?_cons_succ, List.getElem?_cons_zero]; rfl)
      case hq83 => exact fun _ _ _ h => h
      case hw83 => rfl
      case hy83 => (intro wq hSw; (try dsimp only at hSw); go_simp; (try with_reducible rfl))
      (try simp only [Act.put, List.setIfInBounds_toArray, List.set_cons_zero, List.set_cons_succ])
      refine wpAnyH_done (by kernel_rfl) ?_ _
      go_upto_region 7 with fail
      have HD := Lib.hid HC.out.drew
      clear HC
      have HC := HD
      clear HD
      refine wp_region_held_drew (S := (fun w' => w'.cell? ⟨w.heap.size, 0, none⟩ = some (.int .i64 (R : Int)) ∧ w'.cell? ⟨w.heap.size, 1, none⟩ = some (.slice (some ⟨b, off, none⟩) N ck) ∧ w'.cell? ⟨w.heap.size, 2, none⟩ = some (.int .i64 (D : Int)) ∧ w'.cell? ⟨(w.heap.size + 1), 0, none⟩ = some (.int .i64 (W : Int)) ∧ w'.cell? ⟨(w.heap.size + 1), 1, none⟩ = some (.int .i64 (H : Int)) ∧ w'.cell? ⟨(w.heap.size + 1), 2, none⟩ = some (.slice A n c))) (by kernel_rfl) (by exact ⟨HC.out.b1_3.1, HC.out.b1_3.2.1, HC.out.b1_3.2.2, HC.out.b0_3.1, HC.out.b0_3.2.1, HC.out.b0_3.2.2⟩) (fun hHeld => ?_)
      refine' wpAnyH_take (i := 0) (oi := _) (v := _) ?hi84 (by kernel_rfl) (by kernel_rfl) (by kernel_rfl) ?hq84 (Or.inl ⟨?hw84, ?hy84⟩) (by assumption) ?rest84
      case hi84 => (simp only [List.getElem?_toArray, List.getElem?_cons_succ, List.getElem?_cons_zero]; rfl)
      case hq84 => exact fun _ _ _ h => h
      case hw84 => rfl
      case hy84 => (intro wq hSw; (try dsimp only at hSw); go_simp; (try with_reducible rfl))
      (try simp only [Act.put, List.setIfInBounds_toArray, List.set_cons_zero, List.set_cons_succ])
      refine' wpAnyH_take (i := 1) (oi := _) (v := _) ?hi85 (by kernel_rfl) (by kernel_rfl) (by kernel_rfl) ?hq85 (Or.inl ⟨?hw85, ?hy85⟩) (by assumption) ?rest85
      case hi85 => (simp only [List.getElem?_toArray, List.getElem?_cons_succ, List.getElem?_cons_zero]; rfl)
      case hq85 => exact fun _ _ _ h => h
      case hw85 => rfl
      case hy85 => (intro wq hSw; (try dsimp only at hSw); go_simp; (try with_reducible rfl))
      (try simp only [Act.put, List.setIfInBounds_toArray, List.set_cons_zero, List.set_cons_succ])
      refine' wpAnyH_take (i := 2) (oi := _) (v := _) ?hi86 (by kernel_rfl) (by kernel_rfl) (by kernel_rfl) ?hq86 (Or.inl ⟨?hw86, ?hy86⟩) (by assumption) ?rest86
      case hi86 => (simp only [List.getElem?_toArray, List.getElem?_cons_succ, List.getElem?_cons_zero]; rfl)
      case hq86 => exact fun _ _ _ h => h
      case hw86 => rfl
      case hy86 => (intro wq hSw; (try dsimp only at hSw); go_simp; (try with_reducible rfl))
      (try simp only [Act.put, List.setIfInBounds_toArray, List.set_cons_zero, List.set_cons_succ])
      refine' wpAnyH_take (i := 3) (oi := _) (v := _) ?hi87 (by kernel_rfl) (by kernel_rfl) (by kernel_rfl) ?hq87 (Or.inl ⟨?hw87, ?hy87⟩) (by assumption) ?rest87
      case hi87 => (simp only [List.getElem?_toArray, List.getElem?_cons_succ, List.getElem?_cons_zero]; rfl)
      case hq87 => exact fun _ _ _ h => h
      case hw87 => rfl
      case hy87 => (intro wq hSw; (try dsimp only at hSw); go_simp; (try with_reducible rfl))
      (try simp only [Act.put, List.setIfInBounds_toArray, List.set_cons_zero, List.set_cons_succ])
      refine' wpAnyH_take (i := 4) (oi := _) (v := _) ?hi88 (by kernel_rfl) (by kernel_rfl) (by kernel_rfl) ?hq88 (Or.inl ⟨?hw88, ?hy88⟩) (by assumption) ?rest88
      case hi88 => (simp only [List.getElem?_toArray, List.getElem?_cons_succ, List.getElem?_cons_zero]; rfl)
      case hq88 => exact fun _ _ _ h => h
      case hw88 => rfl
      case hy88 => (intro wq hSw; (try dsimp only at hSw); go_simp; (try with_reducible rfl))
      (try simp only [Act.put, List.setIfInBounds_toArray, List.set_cons_zero, List.set_cons_succ])
      refine' wpAnyH_take (i := 5) (oi := _) (v := _) ?hi89 (by kernel_rfl) (by kernel_rfl) (by kernel_rfl) ?hq89 (Or.inl ⟨?hw89, ?hy89⟩) (by assumption) ?rest89
      case hi89 => (simp only [List.getElem?_toArray, List.getElem?_cons_succ, List.getElem?_cons_zero]; rfl)
      case hq89 => exact fun _ _ _ h => h
      case hw89 => rfl
      case hy89 => (intro wq hSw; (try dsimp only at hSw); go_simp; (try with_reducible rfl))
      (try simp only [Act.put, List.setIfInBounds_toArray, List.set_cons_zero, List.set_cons_succ])
      refine' wpAnyH_take (i := 6) (oi := _) (v := _) ?hi90 (by kernel_rfl) (by kernel_rfl) (by kernel_rfl) ?hq90 (Or.inl ⟨?hw90, ?hy90⟩) (by assumption) ?rest90
      case hi90 => (simp only [List.getElem?_toArray, List.getElem?_cons_succ, List.getElem?_cons_zero]; rfl)
      case hq90 => exact fun _ _ _ h => h
      case hw90 => rfl
      case hy90 => (intro wq hSw; (try dsimp only at hSw); go_simp; (try with_reducible rfl))
      (try simp only [Act.put, List.setIfInBounds_toArray, List.set_cons_zero, List.set_cons_succ])
      refine' wpAnyH_take (i := 8) (oi := _) (v := _) ?hi91 (by kernel_rfl) (by kernel_rfl) (by kernel_rfl) ?hq91 (Or.inl ⟨?hw91, ?hy91⟩) (by assumption) ?rest91
      case hi91 => (simp only [List.getElem?_toArray, List.getElem?_cons_succ, List.getElem?_cons_zero]; rfl)
      case hq91 => exact fun _ _ _ h => h
      case hw91 => rfl
      case hy91 => (intro wq hSw; (try dsimp only at hSw); go_simp; (try with_reducible rfl))
      (try simp only [Act.put, List.setIfInBounds_toArray, List.set_cons_zero, List.set_cons_succ])
      refine' wpAnyH_take (i := 9) (oi := _) (v := _) ?hi92 (by kernel_rfl) (by kernel_rfl) (by kernel_rfl) ?hq92 (Or.inl ⟨?hw92, ?hy92⟩) (by assumption) ?rest92
      case hi92 => (simp only [List.getElem?_toArray, List.getElem?_cons_succ, List.getElem?_cons_zero]; rfl)
      case hq92 => exact fun _ _ _ h => h
      case hw92 => rfl
      case hy92 => (intro wq hSw; (try dsimp only at hSw); go_simp; (try with_reducible rfl))
      (try simp only [Act.put, List.setIfInBounds_toArray, List.set_cons_zero, List.set_cons_succ])
      refine' wpAnyH_take (i := 10) (oi := _) (v := _) ?hi93 (by kernel_rfl) (by kernel_rfl) (by kernel_rfl) ?hq93 (Or.inl ⟨?hw93, ?hy93⟩) (by assumption) ?rest93
      case hi93 => (simp only [List.getElem?_toArray, List.getElem?_cons_succ, List.getElem?_cons_zero]; rfl)
      case hq93 => exact fun _ _ _ h => h
      case hw93 => rfl
      case hy93 => (intro wq hSw; (try dsimp only at hSw); go_simp; (try with_reducible rfl))
      (try simp only [Act.put, List.setIfInBounds_toArray, List.set_cons_zero, List.set_cons_succ])
      refine' wpAnyH_take (i := 11) (oi := _) (v := _) ?hi94 (by kernel_rfl) (by kernel_rfl) (by kernel_rfl) ?hq94 (Or.inl ⟨?hw94, ?hy94⟩) (by assumption) ?rest94
      case hi94 => (simp only [List.getElem?_toArray, List.getElem?_cons_succ, List.getElem?_cons_zero]; rfl)
      case hq94 => exact fun _ _ _ h => h
      case hw94 => rfl
      case hy94 => (intro wq hSw; (try dsimp only at hSw); go_simp; (try with_reducible rfl))
      (try simp only [Act.put, List.setIfInBounds_toArray, List.set_cons_zero, List.set_cons_succ])
      refine wpAnyH_ready (rs := [7]) (by kernel_rfl) (by simp) ?_
      refine' AllReadyH.cons (o := _) ?hi95 (fun K hK => ?rest95) AllReadyH.nil
      case hi95 => (simp only [List.getElem?_toArray, List.getElem?_cons_succ, List.getElem?_cons_zero]; rfl)
      go_simp
      go_at_call 36
      refine (iLim_any ex 0 W1 _).mono ?_
      rintro e wl ⟨rfl, rfl⟩
      rw [HLx.out]
      refine hK.out _ _ (by (try dsimp only); exact ⟨HC.out.b1_3.1, HC.out.b1_3.2.1, HC.out.b1_3.2.2, HC.out.b0_3.1, HC.out.b0_3.2.1, HC.out.b0_3.2.2⟩) (fun hHeld => ?_)
      clear hK K
      (try simp only [Act.put, List.setIfInBounds_toArray, List.set_cons_zero, List.set_cons_succ])
      refine wpAnyH_ready (rs := [12]) (by kernel_rfl) (by simp) ?_
      refine' AllReadyH.cons (o := _) ?hi96 (fun K hK => ?rest96) AllReadyH.nil
      case hi96 => (simp only [List.getElem?_toArray, List.getElem?_cons_succ, List.getElem?_cons_zero]; rfl)
      go_simp
      go_at_call 36
      refine (iLim_any ey 0 H1 _).mono ?_
      rintro e wl ⟨rfl, rfl⟩
      rw [HLy.out]
      refine hK.out _ _ (by (try dsimp only); exact ⟨HC.out.b1_3.1, HC.out.b1_3.2.1, HC.out.b1_3.2.2, HC.out.b0_3.1, HC.out.b0_3.2.1, HC.out.b0_3.2.2⟩) (fun hHeld => ?_)
      clear hK K
      (try simp only [Act.put, List.setIfInBounds_toArray, List.set_cons_zero, List.set_cons_succ])
      refine wpAnyH_ready (rs := [13]) (by kernel_rfl) (by simp) ?_
      refine' AllReadyH.cons (o := _) ?hi97 (fun K hK => ?rest97) AllReadyH.nil
      case hi97 => (simp only [List.getElem?_toArray, List.getElem?_cons_succ, List.getElem?_cons_zero]; rfl)
      go_simp
      go_at_call 67
      refine (atN_any W H n Hn.out hW hH A c f cx cy hcx hcy _ (HC.out.arg Hg.out) hc).mono ?_
      rintro e wz ⟨rfl, hB⟩
      have HD := Lib.hid (HC.out.call hB)
      clear HC hB
      have HC := HD
      clear HD
      rw [HFv.out]
      refine hK.out _ _ (by (try dsimp only); exact ⟨HC.out.b1_3.1, HC.out.b1_3.2.1, HC.out.b1_3.2.2, HC.out.b0_3.1, HC.out.b0_3.2.1, HC.out.b0_3.2.2⟩) (fun hHeld => ?_)
      clear hK K
      (try simp only [Act.put, List.setIfInBounds_toArray, List.set_cons_zero, List.set_cons_succ])
      refine' wpAnyH_take (i := 14) (oi := _) (v := _) ?hi98 (by kernel_rfl) (by kernel_rfl) (by kernel_rfl) ?hq98 (Or.inl ⟨?hw98, ?hy98⟩) (by assumption) ?rest98
      case hi98 => (simp only [List.getElem?_toArray, List.getElem?_cons_succ, List.getElem?_cons_zero]; rfl)
      case hq98 => exact fun _ _ _ h => h
      case hw98 => rfl
      case hy98 => (intro wq hSw; (try dsimp only at hSw); go_simp; (try with_reducible rfl))
      (try simp only [Act.put, List.setIfInBounds_toArray, List.set_cons_zero, List.set_cons_succ])
      refine' wpAnyH_take (i := 15) (oi := _) (v := _) ?hi99 (by kernel_rfl) (by kernel_rfl) (by kernel_rfl) ?hq99 (Or.inl ⟨?hw99, ?hy99⟩) (by assumption) ?rest99
      case hi99 => (simp only [List.getElem?_toArray, List.getElem?_cons_succ, List.getElem?_cons_zero]; rfl)
      case hq99 => exact fun _ _ _ h => h
      case hw99 => rfl
      case hy99 => (intro wq hSw; (try dsimp only at hSw); go_simp; (try with_reducible rfl))
      (try simp only [Act.put, List.setIfInBounds_toArray, List.set_cons_zero, List.set_cons_succ])
      refine' wpAnyH_take (i := 16) (oi := _) (v := _) ?hi100 (by kernel_rfl) (by kernel_rfl) (by kernel_rfl) ?hq100 (Or.inl ⟨?hw100, ?hy100⟩) (by assumption) ?rest100
      case hi100 => (simp only [List.getElem?_toArray, List.getElem?_cons_succ, List.getElem?_cons_zero]; rfl)
      case hq100 => exact fun _ _ _ h => h
      case hw100 => rfl
      case hy100 => (intro wq hSw; (try dsimp only at hSw); go_simp; (try with_reducible rfl))
      (try simp only [Act.put, List.setIfInBounds_toArray, List.set_cons_zero, List.set_cons_succ])
      refine wpAnyH_done (by kernel_rfl) ?_ _
      go_wp2
      go_roundw
      case rel => exact ⟨k + 1, by omega, by go_num, by rw [HTn1.out], HC⟩
      case measure => simp [intOf]; omega
    · have hkN : k = N := by omega
      have HE : Hid (T k = T ks.length) := Lib.hid (by rw [hkN, HN.out])
      have HB := Lib.hid HS.out.below
      clear HS
      go_wp2
      go_ret
      exact ⟨ret_int HE.out, HB.out⟩
set_option maxHeartbeats 16000000 in
theorem iCv1_any (W H R D n : Nat) (hn : W * H = n) (hW1 : 1 ≤ W) (hW : W ≤ 16) (hH1 : 1 ≤ H) (hH : H ≤ 16) (hR2 : R ≤ 2) (hD1 : 1 ≤ D) (hD2 : D ≤ 999) (Ak : Option Addr) (ck : Nat) (ks : List Int) (N : Nat) (hN : N = ks.length) (hkl : N ≤ 25) (hkb : ∀ j, j < ks.length → -99 ≤ ks.getD j 0 ∧ ks.getD j 0 ≤ 99) (A : Option Addr) (c : Nat) (f : Nat → Nat → Int) (hf : ∀ x y, x < W → y < H → 0 ≤ f x y ∧ f x y ≤ 255) (hc : n ≤ c) (x y : Nat) (hx : x < W) (hy : y < H) (pk pg : Nat) (w : World) (hk : Rds .i64 w w.heap.size Ak ks) (hr : Rds .i64 w w.heap.size A (grN W H f))
    (h1 : Bx w pk 32 #[.int .i64 (R : Int), .slice Ak N ck, .int .i64 (D : Int)]) (h2 : Bx w pg 59 #[.int .i64 (W : Int), .int .i64 (H : Int), .slice A n c]) :
    Calls Try.prog 35 (#[.int .i64 (x : Int), .int .i64 (y : Int)] ++ #[.pointer (some ⟨pk, 0, none⟩), .pointer (some ⟨pg, 0, none⟩)]) w fun e w' => e = .returned (.int .i64 (cvV f W H R ks D x y)) ∧ Below w.heap.size w w' := by
  have Hk : Hid (Rds .i64 w.drew w.drew.heap.size Ak ks) := Lib.hid hk
  have Hr : Hid (Rds .i64 w.drew w.drew.heap.size A (grN W H f)) := Lib.hid hr
  obtain ⟨s, hs⟩ : ∃ s, s = cvS f W H R ks x y ks.length := ⟨_, rfl⟩
  have hsb := cvS_bd (R := R) hW1 hH1 hf hkb x y ks.length (Nat.le_refl _)
  rw [← hs] at hsb
  obtain ⟨q, hq⟩ : ∃ q, q = (2 * s + (D : Int)) / (2 * (D : Int)) := ⟨_, rfl⟩
  have HV : Hid (lim q 0 255 = cvV f W H R ks D x y) := Lib.hid (by rw [hq, hs]; rfl)
  have HSum : Hid (∀ u, Rds .i64 u u.heap.size Ak ks → Rds .i64 u u.heap.size A (grN W H f) → Calls Try.prog 38 #[.agg #[.int .i64 (R : Int), .slice Ak N ck, .int .i64 (D : Int)], .agg #[.int .i64 (W : Int), .int .i64 (H : Int), .slice A n c], .int .i64 (x : Int), .int .i64 (y : Int)] u fun e w' => e = .returned (.int .i64 s) ∧ Below u.heap.size u w') := Lib.hid (fun u a b => by
    have h := iSum_any W H R D n hn hW1 hW hH1 hH hR2 Ak ck ks N hN hkl hkb A c f hf hc x y hx hy u a b
    rw [← hs] at h
    exact h)
  have HNst : Hid (∀ u, Calls Try.prog 37 #[.int .i64 s, .int .i64 (D : Int)] u fun e w' => e = .returned (.int .i64 q) ∧ u = w') := Lib.hid (fun u => by rw [hq]; exact iNst_any s (D : Int) u (by omega) (by omega) (by omega) (by omega))
  obtain ⟨k0, k1, k2⟩ := bx3 h1
  obtain ⟨g0, g1, g2⟩ := bx3 h2
  have hpk := h1.lt
  have hpg := h2.lt
  clear hk hr h1 h2 hs hsb hq hn hN hkb hf
  show Calls Try.prog 35 #[.int .i64 (x : Int), .int .i64 (y : Int), .pointer (some ⟨pk, 0, none⟩), .pointer (some ⟨pg, 0, none⟩)] w _
  go_enter Try.func35, Try.ntmps35
  go_upto_region 1 with fail
  refine wp_region_held_drew (S := (fun w' => w'.cell? ⟨pk, 0, none⟩ = some (.int .i64 (R : Int)) ∧ w'.cell? ⟨pk, 1, none⟩ = some (.slice Ak N ck) ∧ w'.cell? ⟨pk, 2, none⟩ = some (.int .i64 (D : Int)) ∧ w'.cell? ⟨pg, 0, none⟩ = some (.int .i64 (W : Int)) ∧ w'.cell? ⟨pg, 1, none⟩ = some (.int .i64 (H : Int)) ∧ w'.cell? ⟨pg, 2, none⟩ = some (.slice A n c))) (by kernel_rfl) (by exact ⟨k0, k1, k2, g0, g1, g2⟩) (fun hHeld => ?_)
  refine' wpAnyH_take (i := 0) (oi := _) (v := _) ?hi101 (by kernel_rfl) (by kernel_rfl) (by kernel_rfl) ?hq101 (Or.inl ⟨?hw101, ?hy101⟩) (by assumption) ?rest101
  case hi101 => (simp only [List.getElem?_toArray, List.getElem?_cons_succ, List.getElem?_cons_zero]; rfl)
  case hq101 => exact fun _ _ _ h => h
  case hw101 => rfl
  case hy101 => (intro wq hSw; (try dsimp only at hSw); go_simp; (try with_reducible rfl))
  (try simp only [Act.put, List.setIfInBounds_toArray, List.set_cons_zero, List.set_cons_succ])
  refine' wpAnyH_take (i := 1) (oi := _) (v := _) ?hi102 (by kernel_rfl) (by kernel_rfl) (by kernel_rfl) ?hq102 (Or.inl ⟨?hw102, ?hy102⟩) (by assumption) ?rest102
  case hi102 => (simp only [List.getElem?_toArray, List.getElem?_cons_succ, List.getElem?_cons_zero]; rfl)
  case hq102 => exact fun _ _ _ h => h
  case hw102 => rfl
  case hy102 => (intro wq hSw; (try dsimp only at hSw); go_simp; (try with_reducible rfl))
  (try simp only [Act.put, List.setIfInBounds_toArray, List.set_cons_zero, List.set_cons_succ])
  refine' wpAnyH_take (i := 2) (oi := _) (v := _) ?hi103 (by kernel_rfl) (by kernel_rfl) (by kernel_rfl) ?hq103 (Or.inl ⟨?hw103, ?hy103⟩) (by assumption) ?rest103
  case hi103 => (simp only [List.getElem?_toArray, List.getElem?_cons_succ, List.getElem?_cons_zero]; rfl)
  case hq103 => exact fun _ _ _ h => h
  case hw103 => rfl
  case hy103 => (intro wq hSw; (try dsimp only at hSw); go_simp; (try with_reducible rfl))
  (try simp only [Act.put, List.setIfInBounds_toArray, List.set_cons_zero, List.set_cons_succ])
  refine' wpAnyH_take (i := 3) (oi := _) (v := _) ?hi104 (by kernel_rfl) (by kernel_rfl) (by kernel_rfl) ?hq104 (Or.inl ⟨?hw104, ?hy104⟩) (by assumption) ?rest104
  case hi104 => (simp only [List.getElem?_toArray, List.getElem?_cons_succ, List.getElem?_cons_zero]; rfl)
  case hq104 => exact fun _ _ _ h => h
  case hw104 => rfl
  case hy104 => (intro wq hSw; (try dsimp only at hSw); go_simp; (try with_reducible rfl))
  (try simp only [Act.put, List.setIfInBounds_toArray, List.set_cons_zero, List.set_cons_succ])
  refine' wpAnyH_take (i := 5) (oi := _) (v := _) ?hi105 (by kernel_rfl) (by kernel_rfl) (by kernel_rfl) ?hq105 (Or.inl ⟨?hw105, ?hy105⟩) (by assumption) ?rest105
  case hi105 => (simp only [List.getElem?_toArray, List.getElem?_cons_succ, List.getElem?_cons_zero]; rfl)
  case hq105 => exact fun _ _ _ h => h
  case hw105 => rfl
  case hy105 => (intro wq hSw; (try dsimp only at hSw); go_simp; (try with_reducible rfl))
  (try simp only [Act.put, List.setIfInBounds_toArray, List.set_cons_zero, List.set_cons_succ])
  refine' wpAnyH_take (i := 6) (oi := _) (v := _) ?hi106 (by kernel_rfl) (by kernel_rfl) (by kernel_rfl) ?hq106 (Or.inl ⟨?hw106, ?hy106⟩) (by assumption) ?rest106
  case hi106 => (simp only [List.getElem?_toArray, List.getElem?_cons_succ, List.getElem?_cons_zero]; rfl)
  case hq106 => exact fun _ _ _ h => h
  case hw106 => rfl
  case hy106 => (intro wq hSw; (try dsimp only at hSw); go_simp; (try with_reducible rfl))
  (try simp only [Act.put, List.setIfInBounds_toArray, List.set_cons_zero, List.set_cons_succ])
  refine wpAnyH_ready (rs := [4]) (by kernel_rfl) (by simp) ?_
  refine' AllReadyH.cons (o := _) ?hi107 (fun K hK => ?rest107) AllReadyH.nil
  case hi107 => (simp only [List.getElem?_toArray, List.getElem?_cons_succ, List.getElem?_cons_zero]; rfl)
  go_simp
  go_at_call 38
  refine (HSum.out _ Hk.out Hr.out).mono ?_
  rintro e wa ⟨rfl, hB⟩
  have d0 := (hB.cell (p := ⟨pk, 0, none⟩) (by exact hpk)).trans k0
  have d1 := (hB.cell (p := ⟨pk, 1, none⟩) (by exact hpk)).trans k1
  have d2 := (hB.cell (p := ⟨pk, 2, none⟩) (by exact hpk)).trans k2
  have d3 := (hB.cell (p := ⟨pg, 0, none⟩) (by exact hpg)).trans g0
  have d4 := (hB.cell (p := ⟨pg, 1, none⟩) (by exact hpg)).trans g1
  have d5 := (hB.cell (p := ⟨pg, 2, none⟩) (by exact hpg)).trans g2
  have HB3 := Lib.hid hB
  clear hB
  refine hK.out _ _ (by (try dsimp only); exact ⟨d0, d1, d2, d3, d4, d5⟩) (fun hHeld => ?_)
  clear hK K
  (try simp only [Act.put, List.setIfInBounds_toArray, List.set_cons_zero, List.set_cons_succ])
  refine wpAnyH_ready (rs := [7]) (by kernel_rfl) (by simp) ?_
  refine' AllReadyH.cons (o := _) ?hi108 (fun K hK => ?rest108) AllReadyH.nil
  case hi108 => (simp only [List.getElem?_toArray, List.getElem?_cons_succ, List.getElem?_cons_zero]; rfl)
  go_simp
  go_at_call 37
  refine (HNst.out _).mono ?_
  rintro e wb ⟨rfl, rfl⟩
  refine hK.out _ _ (by (try dsimp only); exact ⟨d0, d1, d2, d3, d4, d5⟩) (fun hHeld => ?_)
  clear hK K
  (try simp only [Act.put, List.setIfInBounds_toArray, List.set_cons_zero, List.set_cons_succ])
  refine wpAnyH_ready (rs := [8]) (by kernel_rfl) (by simp) ?_
  refine' AllReadyH.cons (o := _) ?hi109 (fun K hK => ?rest109) AllReadyH.nil
  case hi109 => (simp only [List.getElem?_toArray, List.getElem?_cons_succ, List.getElem?_cons_zero]; rfl)
  go_simp
  go_at_call 36
  refine (iLim_any q 0 255 _).mono ?_
  rintro e wc ⟨rfl, rfl⟩
  rw [HV.out]
  refine hK.out _ _ (by (try dsimp only); exact ⟨d0, d1, d2, d3, d4, d5⟩) (fun hHeld => ?_)
  clear hK K
  (try simp only [Act.put, List.setIfInBounds_toArray, List.set_cons_zero, List.set_cons_succ])
  refine' wpAnyH_take (i := 9) (oi := _) (v := _) ?hi110 (by kernel_rfl) (by kernel_rfl) (by kernel_rfl) ?hq110 (Or.inl ⟨?hw110, ?hy110⟩) (by assumption) ?rest110
  case hi110 => (simp only [List.getElem?_toArray, List.getElem?_cons_succ, List.getElem?_cons_zero]; rfl)
  case hq110 => exact fun _ _ _ h => h
  case hw110 => rfl
  case hy110 => (intro wq hSw; (try dsimp only at hSw); go_simp; (try with_reducible rfl))
  (try simp only [Act.put, List.setIfInBounds_toArray, List.set_cons_zero, List.set_cons_succ])
  refine wpAnyH_done (by kernel_rfl) ?_ _
  have HB4 : Hid (Below w.heap.size w wa) := Lib.hid ((show Below w.heap.size w w.drew from ⟨rfl, rfl, rfl, Nat.le_refl _, fun _ _ => rfl⟩).trans HB3.out)
  clear d0 d1 d2 d3 d4 d5 g0 g1 g2 k0 k1 k2 HB3
  go_wp2
  go_ret
  exact ⟨rfl, HB4.out⟩
set_option maxHeartbeats 8000000 in
theorem iCv2_any (W H R D n : Nat) (hn : W * H = n) (hW1 : 1 ≤ W) (hW : W ≤ 16) (hH1 : 1 ≤ H) (hH : H ≤ 16) (hR2 : R ≤ 2) (hD1 : 1 ≤ D) (hD2 : D ≤ 999) (Ak : Option Addr) (ck : Nat) (ks : List Int) (N : Nat) (hN : N = ks.length) (hkl : N ≤ 25) (hkb : ∀ j, j < ks.length → -99 ≤ ks.getD j 0 ∧ ks.getD j 0 ≤ 99) (A : Option Addr) (c : Nat) (f : Nat → Nat → Int) (hf : ∀ x y, x < W → y < H → 0 ≤ f x y ∧ f x y ≤ 255) (hc : n ≤ c) (pk : Nat) (w : World) (hk : Rds .i64 w w.heap.size Ak ks) (hr : Rds .i64 w w.heap.size A (grN W H f))
    (h1 : Bx w pk 32 #[.int .i64 (R : Int), .slice Ak N ck, .int .i64 (D : Int)]) :
    Calls Try.prog 33 (#[.agg #[.int .i64 (W : Int), .int .i64 (H : Int), .slice A n c]] ++ #[.pointer (some ⟨pk, 0, none⟩)]) w (GridI W H (cvV f W H R ks D) w) := by
  have Hk := Lib.hid hk
  have Hr := Lib.hid hr
  have HF := Lib.hid hf
  have HKb := Lib.hid hkb
  have Hn := Lib.hid hn
  have HN := Lib.hid hN
  have HP := Lib.hid h1
  have hpk := h1.lt
  have Eg : Hid (∀ args w, (callFunc 35 args).run Try.prog w = .ok (.enter 35 args) w) := Lib.hid (enters_of Try.func35 (by kernel_rfl) rfl)
  have S0 : GS w ((w.alloc (.cells #[.int .i64 (W : Int), .int .i64 (H : Int), .slice A n c] 59)).alloc (.cells #[.int .i64 0, .int .i64 0, .slice none 0 0] 59)) [] [⟨w.heap.size + 1, 59, #[.int .i64 0, .int .i64 0, .slice none 0 0]⟩, ⟨w.heap.size, 59, #[.int .i64 (W : Int), .int .i64 (H : Int), .slice A n c]⟩] := GS.box' (GS.box' (GS.start w) _ _ w.heap.size rfl) _ _ (w.heap.size + 1) (by simp)
  have HS := Lib.hid S0
  clear hk hr hf hkb hn hN h1
  show Calls Try.prog 33 #[.agg #[.int .i64 (W : Int), .int .i64 (H : Int), .slice A n c], .pointer (some ⟨pk, 0, none⟩)] w _
  obtain ⟨b0, b1, b2⟩ := S0.b1_3
  clear S0
  go_enter Try.func33, Try.ntmps33
  go_wp2_with fail
  clear b0 b1 b2
  generalize (w.alloc (.cells #[.int .i64 (W : Int), .int .i64 (H : Int), .slice A n c] 59)).alloc (.cells #[.int .i64 0, .int .i64 0, .slice none 0 0] 59) = u at *
  refine (buildN_any W H hW hH 35 #[.pointer (some ⟨pk, 0, none⟩), .pointer (some ⟨w.heap.size, 0, none⟩)] (cvV f W H R ks D) u Eg.out (fun x y w' hx hy hbel =>
    iCv1_any W H R D n Hn.out hW1 hW hH1 hH hR2 hD1 hD2 Ak ck ks N HN.out hkl HKb.out A c f HF.out hc x y hx hy pk w.heap.size w' ((HS.out.call hbel).arg Hk.out) ((HS.out.call hbel).arg Hr.out) (HP.out.below ((HS.out.call hbel).below)) ((HS.out.call hbel).bx (by simp)))).mono ?_
  rintro e w4 ⟨v4, rfl, hO4, hB4⟩
  have S4 := HS.out.add hO4 hB4
  obtain ⟨A4, c4, rfl, _⟩ := hO4.slice
  obtain ⟨r0, r1, r2⟩ := S4.b0_3
  have f0 := S4.f0 0
  have f1 := S4.f0 1
  have f2 := S4.f0 2
  have HE := Lib.hid (S4.e0_3 (.int .i64 (W : Int)) (.int .i64 (H : Int)) (.slice A4 (img W H 1 (fun x y _ => cvV f W H R ks D x y)).length c4))
  clear S4 HS hO4 hB4 HF Eg
  go_wp2
  exact bodyPost_ret (v := .agg #[.int .i64 (W : Int), .int .i64 (H : Int), .slice A4 (img W H 1 (fun x y _ => cvV f W H R ks D x y)).length c4]) (by simp [results, Try.results33, go_sem, r0, r1, r2]) rfl ⟨_, rfl, HE.out.2 _ (List.Mem.head _), HE.out.1⟩
set_option maxHeartbeats 16000000 in
theorem i_ConvolveImage (W H P : Int) (A : Option Addr) (c : Nat) (xs : List Int) (R D : Int) (Ak : Option Addr) (ck : Nat) (ks : List Int) (w : World) (hx : Rds .i64 w w.heap.size A xs) (hl : xs.length ≤ 2000000) (hlc : xs.length ≤ c) (hk : Rds .i64 w w.heap.size Ak ks) (hkl : ks.length ≤ 2000000) :
    Calls Try.prog 11 #[.agg #[.int .i64 W, .int .i64 H, .int .i64 P, .slice A xs.length c], .agg #[.int .i64 R, .slice Ak ks.length ck, .int .i64 D]] w (MadeIf (cvOk W H P xs R ks D) W H P (cvL W.toNat H.toNat P.toNat xs R.toNat ks D.toNat) w) := by
  have HX := Lib.hid hx
  have HK := Lib.hid hk
  obtain ⟨N, hN⟩ : ∃ N, N = ks.length := ⟨_, rfl⟩
  have HN := Lib.hid hN
  rw [← hN] at hkl ⊢
  clear hx hk hN
  have S0 : GS w (((w.alloc (.cells #[.int .i64 W, .int .i64 H, .int .i64 P, .slice A xs.length c] 29)).alloc (.cells #[.int .i64 R, .slice Ak N ck, .int .i64 D] 32)).alloc (.cells #[.int .i64 0, .int .i64 0, .int .i64 0, .slice none 0 0] 29)) [] [⟨w.heap.size + 2, 29, #[.int .i64 0, .int .i64 0, .int .i64 0, .slice none 0 0]⟩, ⟨w.heap.size + 1, 32, #[.int .i64 R, .slice Ak N ck, .int .i64 D]⟩, ⟨w.heap.size, 29, #[.int .i64 W, .int .i64 H, .int .i64 P, .slice A xs.length c]⟩] := GS.box' (GS.box' (GS.box' (GS.start w) _ _ w.heap.size rfl) _ _ (w.heap.size + 1) (by simp)) _ _ (w.heap.size + 2) (by simp)
  have Eg : Hid (∀ args w, (callFunc 33 args).run Try.prog w = .ok (.enter 33 args) w) := Lib.hid (enters_of Try.func33 (by kernel_rfl) rfl)
  have HV : Hid (cvOk W H P xs R ks D = (vim W H P xs && knOk R ks D)) := Lib.hid rfl
  go_enter Try.func11, Try.ntmps11
  go_wp2_with fail
  generalize ((w.alloc (.cells #[.int .i64 W, .int .i64 H, .int .i64 P, .slice A xs.length c] 29)).alloc (.cells #[.int .i64 R, .slice Ak N ck, .int .i64 D] 32)).alloc (.cells #[.int .i64 0, .int .i64 0, .int .i64 0, .slice none 0 0] 29) = u0 at *
  refine (iVimg_any W H P A c xs u0 (S0.arg HX.out) hl).mono ?_
  rintro e u1 ⟨rfl, hB⟩
  have S1 := S0.call hB
  clear hB S0
  cases hv : vim W H P xs
  · have Hf : Hid (cvOk W H P xs R ks D = false) := Lib.hid (by rw [HV.out, hv]; rfl)
    clear hv HV
    obtain ⟨r0, r1, r2, r3⟩ := S1.b0_4
    have f0 := S1.f0 0
    have f1 := S1.f0 1
    have f2 := S1.f0 2
    have f3 := S1.f0 3
    have HE := Lib.hid (S1.e0_4 (.int .i64 0) (.int .i64 0) (.int .i64 0) (.slice none 0 0))
    clear S1
    go_wp2
    exact bodyPost_ret (v := .agg #[.int .i64 0, .int .i64 0, .int .i64 0, .slice none 0 0]) (by simp [results, Try.results11, go_sem, r0, r1, r2, r3]) rfl (MadeIf.no Hf.out ⟨_, rfl, World.ownsRow_nil _ _ _ _, HE.out.1⟩)
  · obtain ⟨b0, b1, b2⟩ := S1.b1_3
    go_wp2_with fail
    clear b0 b1 b2
    refine (iKv_any R Ak ck ks N HN.out D u1 (S1.arg HK.out) (by have := HN.out; omega)).mono ?_
    rintro e u2 ⟨rfl, hB⟩
    have S2 := S1.call hB
    clear hB S1
    cases hk : knOk R ks D
    · have Hf : Hid (cvOk W H P xs R ks D = false) := Lib.hid (by rw [HV.out, hv, hk]; rfl)
      clear hv hk HV
      obtain ⟨r0, r1, r2, r3⟩ := S2.b0_4
      have f0 := S2.f0 0
      have f1 := S2.f0 1
      have f2 := S2.f0 2
      have f3 := S2.f0 3
      have HE := Lib.hid (S2.e0_4 (.int .i64 0) (.int .i64 0) (.int .i64 0) (.slice none 0 0))
      clear S2
      go_wp2
      exact bodyPost_ret (v := .agg #[.int .i64 0, .int .i64 0, .int .i64 0, .slice none 0 0]) (by simp [results, Try.results11, go_sem, r0, r1, r2, r3]) rfl (MadeIf.no Hf.out ⟨_, rfl, World.ownsRow_nil _ _ _ _, HE.out.1⟩)
    · have Ht : Hid (cvOk W H P xs R ks D = true) := Lib.hid (by rw [HV.out, hv, hk]; rfl)
      obtain ⟨W, H, P, rfl, rfl, rfl, hW1, hW, hH1, hH, hP1, hP, hln, hby⟩ := vim_nat hv
      obtain ⟨R, D, rfl, rfl, hR2, ⟨hD1, hD2⟩, _, hk25, hkb⟩ := knOk_nat hk
      have HLn := Lib.hid hln
      have HKb := Lib.hid hkb
      have hN25 : N ≤ 25 := by have := HN.out; omega
      have HF : Hid (∀ p, p < P → ∀ x y, x < W → y < H → 0 ≤ px W P xs x y p ∧ px W P xs x y p ≤ 255) := Lib.hid (fun p hp x y hx hy => hby _ (by
        have h1 := row_lt hx hy
        have := Nat.mul_le_mul_right P (show y * W + x + 1 ≤ W * H from h1)
        rw [Nat.add_mul, Nat.one_mul] at this
        show pix W P x y p < xs.length
        unfold pix; rw [hln]; omega))
      have HS := Lib.hid S2
      obtain ⟨d0, d1, d2, d3⟩ := S2.b2_4
      clear hv hk HV hln hby S2 hkb hk25
      go_wp2_with fail
      refine (iChP_any W H P W H hW hH hP1 hP hW1 hW hH1 hH A c xs HLn.out (fun p => cvV (fun a b => px W P xs a b p) W H R ks D) 33 #[.pointer (some ⟨w.heap.size + 1, 0, none⟩)] u2 (HS.out.arg HX.out) Eg.out
        (fun p A' c' n' w' hp hbel hn' hc' hr' => iCv2_any W H R D n' hn' hW1 hW hH1 hH hR2 hD1 hD2 Ak ck ks N HN.out hN25 HKb.out A' c' (fun x y => px W P xs x y p) (HF.out p hp) hc' (w.heap.size + 1) w' ((HS.out.call hbel).arg HK.out) hr' ((HS.out.call hbel).bx (by simp)))).mono ?_
      rintro e u4 ⟨v4, rfl, hO4, hB4⟩
      have S4 := HS.out.add hO4 hB4
      obtain ⟨A4, c4, rfl, _⟩ := hO4.slice
      obtain ⟨r0, r1, r2, r3⟩ := S4.b0_4
      have f0 := S4.f0 0
      have f1 := S4.f0 1
      have f2 := S4.f0 2
      have f3 := S4.f0 3
      have HE := Lib.hid (S4.e0_4 (.int .i64 (W : Int)) (.int .i64 (H : Int)) (.int .i64 (P : Int)) (.slice A4 (img W H P (fun x y p => cvV (fun a b => px W P xs a b p) W H R ks D x y)).length c4))
      clear S4 HS hO4 hB4 d0 d1 d2 d3
      go_wp2
      exact bodyPost_ret (v := .agg #[.int .i64 (W : Int), .int .i64 (H : Int), .int .i64 (P : Int), .slice A4 (img W H P (fun x y p => cvV (fun a b => px W P xs a b p) W H R ks D x y)).length c4]) (by simp [results, Try.results11, go_sem, r0, r1, r2, r3]) rfl (MadeIf.yes Ht.out ⟨_, rfl, HE.out.2 _ (List.Mem.head _), HE.out.1⟩)
end Go.Proofs.Ytjgcondkoaegnaa
namespace Go.Proofs.Ytjgcondkoaegnaa
set_option linter.unusedSimpArgs false
set_option linter.unusedVariables false

def lumY (r g b : Int) : Int := b + (r - b) / 2 + (g - (b + (r - b) / 2)) / 2
def lumG (r g b : Int) : Int := g - (b + (r - b) / 2)
def rgbB (y o g : Int) : Int := y - g / 2 - o / 2
def rgbG (y g : Int) : Int := g + (y - g / 2)
theorem rgb_lum (r g b : Int) : rgbB (lumY r g b) (r - b) (lumG r g b) = b ∧ rgbG (lumY r g b) (lumG r g b) = g := by
  unfold rgbB rgbG lumY lumG; omega
theorem lum_rgb (y o g : Int) : lumY (o + rgbB y o g) (rgbG y g) (rgbB y o g) = y ∧ lumG (o + rgbB y o g) (rgbG y g) (rgbB y o g) = g := by
  unfold rgbB rgbG lumY lumG; omega
def lum (xs : List Int) : List Int := if xs.length = 3 ∧ allB 0 255 xs = true then [lumY (xs.getD 0 0) (xs.getD 1 0) (xs.getD 2 0), xs.getD 0 0 - xs.getD 2 0, lumG (xs.getD 0 0) (xs.getD 1 0) (xs.getD 2 0)] else []
def unl (xs : List Int) : List Int := [xs.getD 1 0 + rgbB (xs.getD 0 0) (xs.getD 1 0) (xs.getD 2 0), rgbG (xs.getD 0 0) (xs.getD 2 0), rgbB (xs.getD 0 0) (xs.getD 1 0) (xs.getD 2 0)]
def frlOk (xs : List Int) : Bool := decide (xs.length = 3 ∧ allB (-255) 255 xs = true ∧ allB 0 255 (unl xs) = true)
def frl (xs : List Int) : List Int := if frlOk xs = true then unl xs else []
theorem allB_three {lo hi a b c : Int} : allB lo hi [a, b, c] = true ↔ (lo ≤ a ∧ a ≤ hi) ∧ (lo ≤ b ∧ b ≤ hi) ∧ (lo ≤ c ∧ c ≤ hi) := by simp [allB]
theorem lum_len (xs : List Int) : (lum xs).length ≤ 3 := by unfold lum; split <;> simp
theorem frl_len (xs : List Int) : (frl xs).length ≤ 3 := by unfold frl; split <;> simp [unl]
theorem three_of {xs : List Int} (h : xs.length = 3) : ∃ a b c, xs = [a, b, c] := by
  match xs, h with
  | [a, b, c], _ => exact ⟨a, b, c, rfl⟩
theorem lum_yes {a b c : Int} (h : allB 0 255 [a, b, c] = true) : lum [a, b, c] = [lumY a b c, a - c, lumG a b c] := by
  unfold lum; rw [if_pos ⟨rfl, h⟩]; rfl
theorem lum_no {xs : List Int} (h : xs.length ≠ 3 ∨ allB 0 255 xs = false) : lum xs = [] := by
  unfold lum; rw [if_neg]; rintro ⟨h1, h2⟩
  rcases h with h | h
  · exact h h1
  · rw [h2] at h; cases h
theorem lum_back {xs : List Int} (h : lum xs ≠ []) : frlOk (lum xs) = true ∧ frl (lum xs) = xs ∧ (lum xs).length = 3 ∧ 0 ≤ (lum xs).getD 0 0 ∧ (lum xs).getD 0 0 ≤ 255 ∧ xs.length = 3 := by
  by_cases hc : xs.length = 3 ∧ allB 0 255 xs = true
  · obtain ⟨hl, hb⟩ := hc
    obtain ⟨a, b, c, rfl⟩ := three_of hl
    have e := lum_yes hb
    obtain ⟨h1, h2⟩ := rgb_lum a b c
    obtain ⟨ha, hb', hc'⟩ := allB_three.1 hb
    have hu : unl (lum [a, b, c]) = [a, b, c] := by
      rw [e]
      simp only [unl, List.getD_cons_zero, List.getD_cons_succ, h1, h2]
      congr 1; omega
    have ho : frlOk (lum [a, b, c]) = true := by
      unfold frlOk
      rw [hu]
      refine decide_eq_true ⟨by rw [e]; rfl, ?_, hb⟩
      rw [e, allB_three]
      unfold lumY lumG
      omega
    refine ⟨ho, by unfold frl; rw [if_pos ho, hu], by rw [e]; rfl, ?_, ?_, rfl⟩
    · rw [e]; simp only [List.getD_cons_zero]; unfold lumY; omega
    · rw [e]; simp only [List.getD_cons_zero]; unfold lumY; omega
  · exact absurd (lum_no (by by_cases h1 : xs.length = 3; exact .inr (by cases h2 : allB 0 255 xs; rfl; exact absurd ⟨h1, h2⟩ hc); exact .inl h1)) h
theorem lum_first {x y z : Int} (h : lum [x, y, z] ≠ []) : 0 ≤ x ∧ x ≤ 255 := by
  cases hb : allB 0 255 [x, y, z]
  · exact absurd (lum_no (.inr hb)) h
  · exact (allB_three.1 hb).1
theorem frl_back {xs : List Int} (h : frlOk xs = true) : lum (frl xs) = xs := by
  obtain ⟨hl, hb, hu⟩ := of_decide_eq_true h
  obtain ⟨y, o, g, rfl⟩ := three_of hl
  obtain ⟨h1, h2⟩ := lum_rgb y o g
  unfold frl
  rw [if_pos h]
  have hu' : allB 0 255 [o + rgbB y o g, rgbG y g, rgbB y o g] = true := hu
  show lum [o + rgbB y o g, rgbG y g, rgbB y o g] = _
  rw [lum_yes hu', h1, h2]
  congr 2; omega
theorem frl_no {xs : List Int} (h : frlOk xs = false) : frl xs = [] := by unfold frl; rw [if_neg (by rw [h]; simp)]
theorem lum_gray (a : Int) (h0 : 0 ≤ a) (h1 : a ≤ 255) : lum [a, a, a] = [a, 0, 0] := by
  rw [lum_yes (allB_three.2 ⟨⟨h0, h1⟩, ⟨h0, h1⟩, ⟨h0, h1⟩⟩)]
  unfold lumY lumG
  congr 1
  · omega
  · congr 1
    · omega
    · congr 1; omega
end Go.Proofs.Ytjgcondkoaegnaa
namespace Go.Proofs.Ytjgcondkoaegnaa
open Go.RowKit Go.Shelf
set_option linter.unusedSimpArgs false
set_option linter.unusedVariables false
set_option maxRecDepth 20000

theorem take_putC {L xs : List Int} (hl : L.length = xs.length) {j : Nat} (hj : j < xs.length) : (L.take j ++ xs.drop j).set j (L.getD j 0) = L.take (j + 1) ++ xs.drop (j + 1) := by
  have hlj : (L.take j).length = j := by rw [List.length_take]; omega
  have hd : xs.drop j = xs[j] :: xs.drop (j + 1) := List.drop_eq_getElem_cons hj
  have ht : L.take (j + 1) = L.take j ++ [L.getD j 0] := by
    rw [List.take_succ_eq_append_getElem (show j < L.length by omega)]
    congr 1
    simp [List.getD_eq_getElem?_getD, show j < L.length by omega]
  rw [List.set_append_right _ _ (by omega), hlj, Nat.sub_self, hd, List.set_cons_zero, ht, List.append_assoc]
  rfl
set_option maxHeartbeats 8000000 in
theorem sKn_any (R : Int) (A : Option Addr) (c : Nat) (ks : List Int) (N : Nat) (hN : N = ks.length) (D : Int) (w : World) (hx : Rds .i64 w w.heap.size A ks) (hl : ks.length ≤ 2000000) :
    Calls Try.prog 25 #[.agg #[.int .i64 R, .slice A N c, .int .i64 D]] w fun e w' => e = .returned (.bool (knOk R ks D)) ∧ Below w.heap.size w w' := by
  have HV : Hid (knOk R ks D = (decide (0 ≤ R ∧ R ≤ 2) && (decide ((ks.length : Int) = (2 * R + 1) * (2 * R + 1)) && (allB (-99) 99 ks && decide (1 ≤ D ∧ D ≤ 999))))) := Lib.hid rfl
  have S0 : GS w (w.alloc (.cells #[.int .i64 R, .slice A N c, .int .i64 D] 32)) [] [⟨w.heap.size, 32, #[.int .i64 R, .slice A N c, .int .i64 D]⟩] := GS.box' (GS.start w) _ _ w.heap.size rfl
  have HX := Lib.hid (S0.arg hx)
  have HN := Lib.hid hN
  have hNl : N ≤ 2000000 := by omega
  have HB := Lib.hid S0.below
  obtain ⟨b0, b1, b2⟩ := S0.b0_3
  clear hx hN S0 hl
  by_cases h1 : 0 ≤ R ∧ R ≤ 2
  · obtain ⟨r, rfl⟩ := Int.eq_ofNat_of_zero_le h1.1
    obtain ⟨S, hS⟩ : ∃ S : Nat, (2 * (r : Int) + 1) = (S : Int) := ⟨2 * r + 1, by omega⟩
    obtain ⟨q, hq⟩ : ∃ q : Nat, (S : Int) * (S : Int) = (q : Int) := ⟨S * S, by simp⟩
    have hq25 : q ≤ 25 := by
      have h5 : (S : Int) * (S : Int) ≤ 5 * 5 := Int.mul_le_mul (by omega) (by omega) (by omega) (by omega)
      omega
    have w1 : IntKind.i64.wrap (2 * (r : Int)) = 2 * (r : Int) := IntWalk.i64_in _ (by omega)
    have w2 : IntKind.i64.wrap (S : Int) = (S : Int) := IntWalk.i64_in _ (by omega)
    have w3 : IntKind.i64.wrap (q : Int) = (q : Int) := IntWalk.i64_in _ (by omega)
    have HV2 : Hid (knOk (r : Int) ks D = (decide (N = q) && (allB (-99) 99 ks && decide (1 ≤ D ∧ D ≤ 999)))) := Lib.hid (by
      rw [HV.out, decide_eq_true h1, Bool.true_and, hS, hq, HN.out]
      congr 1
      exact decide_eq_decide.2 ⟨fun h => by omega, fun h => by omega⟩)
    clear HV
    go_enter Try.func25, Try.ntmps25
    go_wp2_with fail
    refine (sIn_any (r : Int) 0 2 _).mono ?_
    rintro e w' ⟨rfl, rfl⟩
    rw [decide_eq_true h1]
    by_cases h2 : N = q
    · have HV3 : Hid (knOk (r : Int) ks D = (allB (-99) 99 ks && decide (1 ≤ D ∧ D ≤ 999))) := Lib.hid (by rw [HV2.out, decide_eq_true h2]; rfl)
      clear HV2
      subst h2
      go_wp2_with fail
      have hAl := sAllIn_any A c _ ks (-99) 99 _ HX.out (by have := HN.out; omega)
      rw [← HN.out] at hAl
      refine hAl.mono ?_
      rintro e w' ⟨rfl, rfl⟩
      clear hAl
      cases ha : allB (-99) 99 ks
      · have HF : Hid (knOk (r : Int) ks D = false) := Lib.hid (by rw [HV3.out, ha]; rfl)
        go_wp2
        go_ret
        exact ⟨ret_bool HF.out.symm, HB.out⟩
      · have HF : Hid (knOk (r : Int) ks D = decide (1 ≤ D ∧ D ≤ 999)) := Lib.hid (by rw [HV3.out, ha]; rfl)
        go_wp2_with fail
        refine (sIn_any D 1 999 _).mono ?_
        rintro e w' ⟨rfl, rfl⟩
        rw [← HF.out]
        go_wp2
        go_ret
        exact ⟨rfl, HB.out⟩
    · have HF : Hid (knOk (r : Int) ks D = false) := Lib.hid (by rw [HV2.out, decide_eq_false h2]; rfl)
      have hne : ¬ (N : Int) = (q : Int) := by omega
      go_wp2
      go_ret
      exact ⟨ret_bool HF.out.symm, HB.out⟩
  · have HF : Hid (knOk R ks D = false) := Lib.hid (by rw [HV.out, decide_eq_false h1]; rfl)
    go_enter Try.func25, Try.ntmps25
    go_wp2_with fail
    refine (sIn_any R 0 2 _).mono ?_
    rintro e w' ⟨rfl, rfl⟩
    rw [decide_eq_false h1]
    go_wp2
    go_ret
    exact ⟨ret_bool HF.out.symm, HB.out⟩
set_option maxHeartbeats 16000000 in
theorem sCv_any (W H P R p N : Nat) (D : Int) (hW1 : 1 ≤ W) (hW : W ≤ 16) (hH1 : 1 ≤ H) (hH : H ≤ 16) (hP : P ≤ 4) (hp : p < P) (hR2 : R ≤ 2) (Ak : Option Addr) (ck : Nat) (ks : List Int) (hN : N = ks.length) (hkl : N ≤ 25) (hkb : ∀ j, j < ks.length → -99 ≤ ks.getD j 0 ∧ ks.getD j 0 ≤ 99) (A : Option Addr) (c : Nat) (xs : List Int) (hln : xs.length = W * H * P) (hf : ∀ x y, x < W → y < H → 0 ≤ px W P xs x y p ∧ px W P xs x y p ≤ 255) (x y : Nat) (hx : x < W) (hy : y < H) (w : World) (hr : Rds .i64 w w.heap.size A xs) (hk : Rds .i64 w w.heap.size Ak ks) :
    Calls Try.prog 28 #[.agg #[.int .i64 (W : Int), .int .i64 (H : Int), .int .i64 (P : Int), .slice A xs.length c], .agg #[.int .i64 (R : Int), .slice Ak N ck, .int .i64 D], .int .i64 (x : Int), .int .i64 (y : Int), .int .i64 (p : Int)] w fun e w' => e = .returned (.int .i64 (cvS (fun a b => px W P xs a b p) W H R ks x y ks.length)) ∧ Below w.heap.size w w' := by
  have HX := Lib.hid hr
  have HK := Lib.hid hk
  have HF := Lib.hid hf
  have HKb := Lib.hid hkb
  have HN := Lib.hid hN
  have HLn := Lib.hid hln
  obtain ⟨T, hT⟩ : ∃ T, T = cvS (fun a b => px W P xs a b p) W H R ks x y := ⟨_, rfl⟩
  have HTb : Hid (∀ k, k ≤ ks.length → -(25245 * (k : Int)) ≤ T k ∧ T k ≤ 25245 * (k : Int)) := Lib.hid (fun k hk => by rw [hT]; exact cvS_bd hW1 hH1 hf hkb x y k hk)
  have HT0 : Hid (T 0 = 0) := Lib.hid (by rw [hT]; rfl)
  have HTn : Hid (∀ k, T (k + 1) = T k + ks.getD k 0 * px W P xs (cvc R x (k % (2 * R + 1)) 0 W) (cvc R y (k / (2 * R + 1)) 0 H) p) := Lib.hid (fun k => by rw [hT]; rfl)
  have HTe : Hid (T ks.length = cvS (fun a b => px W P xs a b p) W H R ks x y ks.length) := Lib.hid (by rw [hT])
  have S0 : GS w ((w.alloc (.cells #[.int .i64 (W : Int), .int .i64 (H : Int), .int .i64 (P : Int), .slice A xs.length c] 29)).alloc (.cells #[.int .i64 (R : Int), .slice Ak N ck, .int .i64 D] 32)) [] [⟨w.heap.size + 1, 32, #[.int .i64 (R : Int), .slice Ak N ck, .int .i64 D]⟩, ⟨w.heap.size, 29, #[.int .i64 (W : Int), .int .i64 (H : Int), .int .i64 (P : Int), .slice A xs.length c]⟩] := GS.box' (GS.box' (GS.start w) _ _ w.heap.size rfl) _ _ (w.heap.size + 1) (by simp)
  have HS := Lib.hid S0
  obtain ⟨S, hS⟩ : ∃ S, S = 2 * R + 1 := ⟨_, rfl⟩
  have HSd : Hid (2 * R + 1 = S) := Lib.hid hS.symm
  have hS1 : 1 ≤ S := by omega
  have hS5 : S ≤ 5 := by omega
  have eS : 2 * (R : Int) + 1 = (S : Int) := by omega
  have wS1 : IntKind.i64.wrap (2 * (R : Int)) = 2 * (R : Int) := IntWalk.i64_in _ (by omega)
  have wS2 : IntKind.i64.wrap (S : Int) = (S : Int) := IntWalk.i64_in _ (by omega)
  have hx1024 : xs.length ≤ 1024 := by
    have h1 := Nat.mul_le_mul hW hH
    have h2 := Nat.mul_le_mul h1 hP
    omega
  clear hr hk hf hkb hT S0 hS hN hln
  rw [← HTe.out]
  obtain ⟨k0, k1, k2⟩ := HS.out.b0_3
  go_enter Try.func28, Try.ntmps28
  go_wp2
  clear k0 k1 k2 eS wS1 wS2
  generalize (w.alloc (.cells #[.int .i64 (W : Int), .int .i64 (H : Int), .int .i64 (P : Int), .slice A xs.length c] 29)).alloc (.cells #[.int .i64 (R : Int), .slice Ak N ck, .int .i64 D] 32) = u0 at *
  go_loopw [11, 13, 14, 15] (fun s i _ _ wr => ∃ k : Nat, k ≤ N ∧ i = .int .i64 (k : Int) ∧ s = .int .i64 (T k) ∧ Hid (GS w wr [] [⟨w.heap.size + 1, 32, #[.int .i64 (R : Int), .slice Ak N ck, .int .i64 D]⟩, ⟨w.heap.size, 29, #[.int .i64 (W : Int), .int .i64 (H : Int), .int .i64 (P : Int), .slice A xs.length c]⟩])) (fun _ i _ _ _ => N - (intOf i).toNat)
  case atStart => exact ⟨0, Nat.zero_le _, rfl, by rw [HT0.out], HS⟩
  case round =>
    clear HS
    obtain ⟨k, hk, rfl, rfl, HS⟩ := hrel
    obtain ⟨k0, k1, k2⟩ := HS.out.b0_3
    by_cases hlt : k < N
    · obtain ⟨b, off, rfl, hb, hcc⟩ := (HS.out.arg HK.out).cells_ (j := k) (by have := HN.out; omega)
      have hck := hcc k (by have := HN.out; omega)
      obtain ⟨b', off', hA', hbl, hcc0⟩ := HK.out.cells_ (j := k) (by have := HN.out; omega)
      injection hA' with hA'
      injection hA' with hA1 hA2
      subst hA1 hA2
      have Hbl := Lib.hid hbl
      have HCk := Lib.hid (hcc0 k (by have := HN.out; omega))
      have hzb := HKb.out k (by have := HN.out; omega)
      have hTk := HTb.out k (by have := HN.out; omega)
      obtain ⟨qa, hqa⟩ : ∃ q, q = k % S := ⟨_, rfl⟩
      obtain ⟨qb, hqb⟩ : ∃ q, q = k / S := ⟨_, rfl⟩
      obtain ⟨cx, hcx0⟩ : ∃ q, q = cvc R x qa 0 W := ⟨_, rfl⟩
      obtain ⟨cy, hcy0⟩ : ∃ q, q = cvc R y qb 0 H := ⟨_, rfl⟩
      have hcx : cx < W := by rw [hcx0]; exact cvc_lt hW1
      have hcy : cy < H := by rw [hcy0]; exact cvc_lt hH1
      have hfb := HF.out cx cy hcx hcy
      obtain ⟨z, hz⟩ : ∃ z, z = ks.getD k 0 := ⟨_, rfl⟩
      obtain ⟨tk, htk⟩ : ∃ t, t = T k := ⟨_, rfl⟩
      have hlt2 := row_lt hcx hcy
      obtain ⟨j1, g1⟩ : ∃ q, q = cy * W := ⟨_, rfl⟩
      obtain ⟨j2, g2⟩ : ∃ q, q = j1 + cx := ⟨_, rfl⟩
      obtain ⟨j3, g3⟩ : ∃ q, q = j2 * P := ⟨_, rfl⟩
      obtain ⟨id, g4⟩ : ∃ k, k = j3 + p := ⟨_, rfl⟩
      have hj2 : j2 < W * H := by rw [g2, g1]; exact hlt2
      have hWH : W * H ≤ 256 := Nat.mul_le_mul hW hH
      have hid : id < xs.length := by
        rw [HLn.out, g4, g3]
        have := Nat.mul_le_mul_right P (show j2 + 1 ≤ W * H from hj2)
        rw [Nat.add_mul, Nat.one_mul] at this
        omega
      obtain ⟨bb, off2, rfl, hb2, hcc2⟩ := (HS.out.arg HX.out).cells_ hid
      have hcp := hcc2 id hid
      obtain ⟨b', off', hA', hbl2, hcc3⟩ := HX.out.cells_ hid
      injection hA' with hA'
      injection hA' with hA1 hA2
      subst hA1 hA2
      have Hbl2 := Lib.hid hbl2
      have HCp := Lib.hid (hcc3 id hid)
      have ep : px W P xs cx cy p = xs.getD id 0 := by unfold px pix; rw [g4, g3, g2, g1]
      rw [ep] at hfb
      obtain ⟨fv, hfv⟩ : ∃ v, v = xs.getD id 0 := ⟨_, rfl⟩
      rw [← hfv] at hcp hfb HCp
      obtain ⟨pr, hpr⟩ : ∃ p, z * fv = p := ⟨_, rfl⟩
      have HTn1 : Hid (T (k + 1) = tk + pr) := Lib.hid (by rw [HTn.out k, HSd.out, ← hqa, ← hqb, ← hcx0, ← hcy0, ep, ← hfv, ← hz, ← htk, hpr])
      have hTk1 := HTb.out (k + 1) (by have := HN.out; omega)
      rw [HTn1.out] at hTk1
      rw [← hz] at hck hzb HCk
      rw [← htk] at hTk ⊢
      have hpb : -30000 ≤ pr ∧ pr ≤ 30000 := by
        have a1 : z * fv ≤ 99 * fv := Int.mul_le_mul_of_nonneg_right hzb.2 hfb.1
        have a2 : -99 * fv ≤ z * fv := Int.mul_le_mul_of_nonneg_right hzb.1 hfb.1
        omega
      have hqa5 : qa < 5 := by rw [hqa]; exact Nat.lt_of_lt_of_le (Nat.mod_lt _ (by omega)) hS5
      have hqb25 : qb ≤ 25 := by rw [hqb]; exact Nat.le_trans (Nat.div_le_self _ _) (by omega)
      have e1 : Int.tmod (k : Int) (S : Int) = (qa : Int) := by rw [Int.tmod_eq_emod_of_nonneg (by omega), hqa]; rfl
      have e2 : Int.tdiv (k : Int) (S : Int) = (qb : Int) := by rw [Int.tdiv_eq_ediv_of_nonneg (by omega), hqb]; rfl
      have wa := wr_natC (n := qa) (by omega)
      have wb := wr_natC (n := qb) (by omega)
      obtain ⟨ex, hex⟩ : ∃ d : Int, (x : Int) + (qa : Int) = d := ⟨_, rfl⟩
      obtain ⟨ey, hey⟩ : ∃ d : Int, (y : Int) + (qb : Int) = d := ⟨_, rfl⟩
      obtain ⟨dx, hdx⟩ : ∃ d : Int, ex - (R : Int) = d := ⟨_, rfl⟩
      obtain ⟨dy, hdy⟩ : ∃ d : Int, ey - (R : Int) = d := ⟨_, rfl⟩
      obtain ⟨W1, hWW⟩ : ∃ d : Int, (W : Int) - 1 = d := ⟨_, rfl⟩
      obtain ⟨H1, hHH⟩ : ∃ d : Int, (H : Int) - 1 = d := ⟨_, rfl⟩
      have HLx : Hid (lim dx 0 W1 = (cx : Int)) := Lib.hid (by rw [hcx0, cvc_eq hW1, ← hdx, ← hex, ← hWW, show (x : Int) + (qa : Int) - (R : Int) = (x : Int) - (R : Int) + (qa : Int) by omega])
      have HLy : Hid (lim dy 0 H1 = (cy : Int)) := Lib.hid (by rw [hcy0, cvc_eq hH1, ← hdy, ← hey, ← hHH, show (y : Int) + (qb : Int) - (R : Int) = (y : Int) - (R : Int) + (qb : Int) by omega])
      have v1 : IntKind.i64.wrap dx = dx := IntWalk.i64_in _ (by omega)
      have v2 : IntKind.i64.wrap dy = dy := IntWalk.i64_in _ (by omega)
      have v3 : IntKind.i64.wrap ex = ex := IntWalk.i64_in _ (by omega)
      have v4 : IntKind.i64.wrap ey = ey := IntWalk.i64_in _ (by omega)
      have v5 : IntKind.i64.wrap W1 = W1 := IntWalk.i64_in _ (by omega)
      have v6 : IntKind.i64.wrap H1 = H1 := IntWalk.i64_in _ (by omega)
      have v7 : IntKind.i64.wrap pr = pr := IntWalk.i64_in _ (by omega)
      have v8 : IntKind.i64.wrap (tk + pr) = tk + pr := IntWalk.i64_in _ (by omega)
      have i1 : (cy : Int) * (W : Int) = (j1 : Int) := by rw [g1]; simp
      have i2 : (j1 : Int) + (cx : Int) = (j2 : Int) := by rw [g2]; simp
      have i3 : (j2 : Int) * (P : Int) = (j3 : Int) := by rw [g3]; simp
      have i4 : (j3 : Int) + (p : Int) = (id : Int) := by rw [g4]; simp
      have w1 := wr_natC (n := j1) (by omega)
      have w2 := wr_natC (n := j2) (by omega)
      have w3 := wr_natC (n := j3) (by omega)
      have w4 := wr_natC (n := id) (by omega)
      have hidI : (id : Int) < (xs.length : Int) := by omega
      have hkI : (k : Int) < (N : Int) := by omega
      have hSn : ¬ (S : Int) = 0 := by omega
      have hSn2 : ¬ S = 0 := by omega
      have hW1b : 0 ≤ W1 := by omega
      have hH1b : 0 ≤ H1 := by omega
      clear hcc hb hqa hqb hcx0 hcy0 hfv hz htk hTk hTk1 hcc2 hb2 hcc0 hcc3 hbl hbl2 g1 g2 g3 g4 hj2 hlt2 ep
      obtain ⟨m0, m1, m2, m3⟩ := HS.out.b1_4
      go_upto_region 6 with fail
      go_cut [14] from 27 to 75 (fun s14 wx => s14 = .int .i64 (cx : Int) ∧ Hid (GS w wx [] [⟨w.heap.size + 1, 32, #[.int .i64 (R : Int), .slice (some ⟨b, off, none⟩) N ck, .int .i64 D]⟩, ⟨w.heap.size, 29, #[.int .i64 (W : Int), .int .i64 (H : Int), .int .i64 (P : Int), .slice (some ⟨bb, off2, none⟩) xs.length c]⟩]))
      case first =>
        have HQ := Lib.hid HS.out.drew
        have hz0 : lim dx 0 W1 = (cx : Int) := HLx.out
        unfold lim at hz0
        by_cases c1 : 0 < dx
        · by_cases c2 : dx < W1
          · skip
            have Hv : Hid (dx = (cx : Int)) := Lib.hid (by omega)
            clear hz0
            go_region
            go_wp2_with fail
            go_meet
            exact ⟨by rw [← Hv.out], HQ⟩
          · skip
            have Hv : Hid (W1 = (cx : Int)) := Lib.hid (by omega)
            clear hz0
            go_region
            go_wp2_with fail
            go_meet
            exact ⟨by rw [← Hv.out], HQ⟩
        · by_cases c2 : 0 < W1
          · skip
            have Hv : Hid ((0 : Int) = (cx : Int)) := Lib.hid (by omega)
            clear hz0
            go_region
            go_wp2_with fail
            go_meet
            exact ⟨by rw [← Hv.out], HQ⟩
          · skip
            have Hv : Hid (W1 = (cx : Int)) := Lib.hid (by omega)
            clear hz0
            go_region
            go_wp2_with fail
            go_meet
            exact ⟨by rw [← Hv.out], HQ⟩
      case rest =>
      obtain ⟨rfl, HS⟩ := hcut
      clear m0 m1 m2 m3 k0 k1 k2
      obtain ⟨m0, m1, m2, m3⟩ := HS.out.b1_4
      obtain ⟨k0, k1, k2⟩ := HS.out.b0_3
      go_upto_region 7 with fail
      go_cut [15] from 27 to 75 (fun s15 wx => s15 = .int .i64 (cy : Int) ∧ Hid (GS w wx [] [⟨w.heap.size + 1, 32, #[.int .i64 (R : Int), .slice (some ⟨b, off, none⟩) N ck, .int .i64 D]⟩, ⟨w.heap.size, 29, #[.int .i64 (W : Int), .int .i64 (H : Int), .int .i64 (P : Int), .slice (some ⟨bb, off2, none⟩) xs.length c]⟩]))
      case first =>
        have HQ := Lib.hid HS.out.drew
        have hz0 : lim dy 0 H1 = (cy : Int) := HLy.out
        unfold lim at hz0
        by_cases c1 : 0 < dy
        · by_cases c2 : dy < H1
          · skip
            have Hv : Hid (dy = (cy : Int)) := Lib.hid (by omega)
            clear hz0
            go_region
            go_wp2_with fail
            go_meet
            exact ⟨by rw [← Hv.out], HQ⟩
          · skip
            have Hv : Hid (H1 = (cy : Int)) := Lib.hid (by omega)
            clear hz0
            go_region
            go_wp2_with fail
            go_meet
            exact ⟨by rw [← Hv.out], HQ⟩
        · by_cases c2 : 0 < H1
          · skip
            have Hv : Hid ((0 : Int) = (cy : Int)) := Lib.hid (by omega)
            clear hz0
            go_region
            go_wp2_with fail
            go_meet
            exact ⟨by rw [← Hv.out], HQ⟩
          · skip
            have Hv : Hid (H1 = (cy : Int)) := Lib.hid (by omega)
            clear hz0
            go_region
            go_wp2_with fail
            go_meet
            exact ⟨by rw [← Hv.out], HQ⟩
      case rest =>
      obtain ⟨rfl, HS⟩ := hcut
      clear m0 m1 m2 m3 k0 k1 k2
      obtain ⟨m0, m1, m2, m3⟩ := HS.out.b1_4
      obtain ⟨k0, k1, k2⟩ := HS.out.b0_3
      have hck2 := (HS.out.below.cell (p := ⟨b, off + k, none⟩) (by exact Hbl.out)).trans HCk.out
      have hcp2 := (HS.out.below.cell (p := ⟨bb, off2 + id, none⟩) (by exact Hbl2.out)).trans HCp.out
      go_upto_region 8 with fail
      go_quiet (fail)
      go_wp2
      go_roundw
      case rel => exact ⟨k + 1, by omega, by go_num, by rw [HTn1.out], Lib.hid (HS.out.drewN _)⟩
      case measure => simp [intOf]; omega
    · have hkN : k = N := by omega
      have HE : Hid (T k = T ks.length) := Lib.hid (by rw [hkN, HN.out])
      have HB := Lib.hid HS.out.below
      clear HS
      go_wp2
      go_ret
      exact ⟨ret_int HE.out, HB.out⟩
set_option maxHeartbeats 16000000 in
theorem s_ConvolveImage (W H P : Int) (A : Option Addr) (c : Nat) (xs : List Int) (R D : Int) (Ak : Option Addr) (ck : Nat) (ks : List Int) (w : World) (hx : Rds .i64 w w.heap.size A xs) (hl : xs.length ≤ 2000000) (hlc : xs.length ≤ c) (hk : Rds .i64 w w.heap.size Ak ks) (hkl : ks.length ≤ 2000000) :
    Calls Try.prog 8 #[.agg #[.int .i64 W, .int .i64 H, .int .i64 P, .slice A xs.length c], .agg #[.int .i64 R, .slice Ak ks.length ck, .int .i64 D]] w (MadeIf (cvOk W H P xs R ks D) W H P (cvL W.toNat H.toNat P.toNat xs R.toNat ks D.toNat) w) := by
  have HX := Lib.hid hx
  have HK := Lib.hid hk
  obtain ⟨N, hN⟩ : ∃ N, N = ks.length := ⟨_, rfl⟩
  have HN := Lib.hid hN
  rw [← hN] at hkl ⊢
  clear hx hk hN
  have S0 : GS w (((w.alloc (.cells #[.int .i64 W, .int .i64 H, .int .i64 P, .slice A xs.length c] 29)).alloc (.cells #[.int .i64 R, .slice Ak N ck, .int .i64 D] 32)).alloc (.cells #[.int .i64 0, .int .i64 0, .int .i64 0, .slice none 0 0] 29)) [] [⟨w.heap.size + 2, 29, #[.int .i64 0, .int .i64 0, .int .i64 0, .slice none 0 0]⟩, ⟨w.heap.size + 1, 32, #[.int .i64 R, .slice Ak N ck, .int .i64 D]⟩, ⟨w.heap.size, 29, #[.int .i64 W, .int .i64 H, .int .i64 P, .slice A xs.length c]⟩] := GS.box' (GS.box' (GS.box' (GS.start w) _ _ w.heap.size rfl) _ _ (w.heap.size + 1) (by simp)) _ _ (w.heap.size + 2) (by simp)
  have HV : Hid (cvOk W H P xs R ks D = (vim W H P xs && knOk R ks D)) := Lib.hid rfl
  go_enter Try.func8, Try.ntmps8
  go_wp2_with fail
  generalize ((w.alloc (.cells #[.int .i64 W, .int .i64 H, .int .i64 P, .slice A xs.length c] 29)).alloc (.cells #[.int .i64 R, .slice Ak N ck, .int .i64 D] 32)).alloc (.cells #[.int .i64 0, .int .i64 0, .int .i64 0, .slice none 0 0] 29) = u0 at *
  refine (sVimg_any W H P A c xs u0 (S0.arg HX.out) hl).mono ?_
  rintro e u1 ⟨rfl, hB⟩
  have S1 := S0.call hB
  clear hB S0
  cases hv : vim W H P xs
  · have Hf : Hid (cvOk W H P xs R ks D = false) := Lib.hid (by rw [HV.out, hv]; rfl)
    clear hv HV
    obtain ⟨r0, r1, r2, r3⟩ := S1.b0_4
    have f0 := S1.f0 0
    have f1 := S1.f0 1
    have f2 := S1.f0 2
    have f3 := S1.f0 3
    have HE := Lib.hid (S1.e0_4 (.int .i64 0) (.int .i64 0) (.int .i64 0) (.slice none 0 0))
    clear S1
    go_wp2
    exact bodyPost_ret (v := .agg #[.int .i64 0, .int .i64 0, .int .i64 0, .slice none 0 0]) (by simp [results, Try.results8, go_sem, r0, r1, r2, r3]) rfl (MadeIf.no Hf.out ⟨_, rfl, World.ownsRow_nil _ _ _ _, HE.out.1⟩)
  · obtain ⟨b0, b1, b2⟩ := S1.b1_3
    go_wp2_with fail
    clear b0 b1 b2
    refine (sKn_any R Ak ck ks N HN.out D u1 (S1.arg HK.out) (by have := HN.out; omega)).mono ?_
    rintro e u2 ⟨rfl, hB⟩
    have S2 := S1.call hB
    clear hB S1
    cases hk : knOk R ks D
    · have Hf : Hid (cvOk W H P xs R ks D = false) := Lib.hid (by rw [HV.out, hv, hk]; rfl)
      clear hv hk HV
      obtain ⟨r0, r1, r2, r3⟩ := S2.b0_4
      have f0 := S2.f0 0
      have f1 := S2.f0 1
      have f2 := S2.f0 2
      have f3 := S2.f0 3
      have HE := Lib.hid (S2.e0_4 (.int .i64 0) (.int .i64 0) (.int .i64 0) (.slice none 0 0))
      clear S2
      go_wp2
      exact bodyPost_ret (v := .agg #[.int .i64 0, .int .i64 0, .int .i64 0, .slice none 0 0]) (by simp [results, Try.results8, go_sem, r0, r1, r2, r3]) rfl (MadeIf.no Hf.out ⟨_, rfl, World.ownsRow_nil _ _ _ _, HE.out.1⟩)
    · have Ht : Hid (cvOk W H P xs R ks D = true) := Lib.hid (by rw [HV.out, hv, hk]; rfl)
      obtain ⟨W, H, P, rfl, rfl, rfl, hW1, hW, hH1, hH, hP1, hP, hln, hby⟩ := vim_nat hv
      obtain ⟨R, D, rfl, rfl, hR2, ⟨hD1, hD2⟩, _, hk25, hkb⟩ := knOk_nat hk
      have HLn := Lib.hid hln
      have HKb := Lib.hid hkb
      have hN25 : N ≤ 25 := by have := HN.out; omega
      have HF : Hid (∀ p, p < P → ∀ x y, x < W → y < H → 0 ≤ px W P xs x y p ∧ px W P xs x y p ≤ 255) := Lib.hid (fun p hp x y hx hy => hby _ (by
        have h1 := row_lt hx hy
        have := Nat.mul_le_mul_right P (show y * W + x + 1 ≤ W * H from h1)
        rw [Nat.add_mul, Nat.one_mul] at this
        show pix W P x y p < xs.length
        unfold pix; rw [hln]; omega))
      have hpos : 0 < xs.length := by rw [hln]; exact Nat.mul_pos (Nat.mul_pos hW1 hH1) hP1
      obtain ⟨n, hn⟩ : ∃ n, n = xs.length := ⟨_, rfl⟩
      obtain ⟨L, hL⟩ : ∃ L, L = cvL W H P xs R ks D := ⟨_, rfl⟩
      have HL := Lib.hid hL
      have HLl : Hid (L.length = n) := Lib.hid (by rw [hL, hn, hln]; unfold cvL; exact img_len ..)
      have HNn := Lib.hid hn
      have HNp : Hid (n = W * H * P) := Lib.hid (by rw [hn, hln])
      have hn1024 : n ≤ 1024 := by
        have h1 := Nat.mul_le_mul hW hH
        have h2 := Nat.mul_le_mul h1 hP
        rw [hn, hln]; exact h2
      obtain ⟨d0, d1, d2, d3⟩ := S2.b2_4
      clear hv hk HV hln hby hkb hk25 hL
      go_wp2_with fail
      refine (sCopyImage_any W H P A c xs u2 (S2.arg HX.out) hl).mono ?_
      rintro e u3 ⟨v3, rfl, hO3, hB3⟩
      clear d0 d1 d2 d3
      obtain ⟨g, c2, rfl, hg1, hg2⟩ := hO3.form hpos
      have S3 := S2.add hO3 hB3
      obtain ⟨lo3, hlo3⟩ : ∃ lo3, lo3 = u2.heap.size := ⟨_, rfl⟩
      obtain ⟨hi3, hhi3⟩ : ∃ hi3, hi3 = u3.heap.size := ⟨_, rfl⟩
      obtain ⟨b3, hb3⟩ : ∃ b3, b3 = u3.heap.size := ⟨_, rfl⟩
      rw [← hn, ← hlo3, ← hhi3] at S3
      have HI0 : Hid (GS w (u3.alloc (.cells #[.int .i64 (W : Int), .int .i64 (H : Int), .int .i64 (P : Int), .slice (some ⟨g, 0, none⟩) n c2] 29)) [ri lo3 hi3 (.slice (some ⟨g, 0, none⟩) n c2) (L.take 0 ++ xs.drop 0)] [⟨b3, 29, #[.int .i64 (W : Int), .int .i64 (H : Int), .int .i64 (P : Int), .slice (some ⟨g, 0, none⟩) n c2]⟩, ⟨w.heap.size + 2, 29, #[.int .i64 0, .int .i64 0, .int .i64 0, .slice none 0 0]⟩, ⟨w.heap.size + 1, 32, #[.int .i64 (R : Int), .slice Ak N ck, .int .i64 (D : Int)]⟩, ⟨w.heap.size, 29, #[.int .i64 (W : Int), .int .i64 (H : Int), .int .i64 (P : Int), .slice A xs.length c]⟩]) :=
        Lib.hid (by rw [List.take_zero, List.drop_zero, List.nil_append, hn]; rw [hn] at S3; exact GS.box' S3 _ _ b3 hb3)
      rw [← hn]
      have HB3 := Lib.hid hb3
      have HnI := Lib.hid hpos
      clear hO3 hB3 S2 S3 hn hlo3 hhi3 hb3 hg1 hg2 hpos
      go_upto_region 4 with fail
      (try rw [← HB3.out])
      generalize hu4 : u3.alloc (.cells #[.int .i64 (W : Int), .int .i64 (H : Int), .int .i64 (P : Int), .slice (some ⟨g, 0, none⟩) n c2] 29) = u4 at *
      clear hu4
      obtain ⟨d0, d1, d2, d3⟩ := HI0.out.b3_4
      go_wp2
      (try rw [← HB3.out])
      go_loopw [6] (fun iy wr => ∃ (y q : Nat), y ≤ H ∧ iy = .int .i64 y ∧ Hid (q = y * W * P) ∧ Hid (GS w wr [ri lo3 hi3 (.slice (some ⟨g, 0, none⟩) n c2) (L.take q ++ xs.drop q)] [⟨b3, 29, #[.int .i64 (W : Int), .int .i64 (H : Int), .int .i64 (P : Int), .slice (some ⟨g, 0, none⟩) n c2]⟩, ⟨w.heap.size + 2, 29, #[.int .i64 0, .int .i64 0, .int .i64 0, .slice none 0 0]⟩, ⟨w.heap.size + 1, 32, #[.int .i64 (R : Int), .slice Ak N ck, .int .i64 (D : Int)]⟩, ⟨w.heap.size, 29, #[.int .i64 (W : Int), .int .i64 (H : Int), .int .i64 (P : Int), .slice A xs.length c]⟩])) (fun iy _ => H - (intOf iy).toNat)
      case atStart => exact ⟨0, 0, Nat.zero_le _, rfl, Lib.hid (by simp), HI0⟩
      case round =>
        clear HI0 d0 d1 d2 d3
        obtain ⟨y, q, hy, rfl, hq, hI⟩ := hrel
        obtain ⟨d0, d1, d2, d3⟩ := hI.out.b3_4
        by_cases hylt : y < H
        · go_wp2
          go_loopw [7] (fun ix wr => ∃ (x q : Nat), x ≤ W ∧ ix = .int .i64 x ∧ Hid (q = (y * W + x) * P) ∧ Hid (GS w wr [ri lo3 hi3 (.slice (some ⟨g, 0, none⟩) n c2) (L.take q ++ xs.drop q)] [⟨b3, 29, #[.int .i64 (W : Int), .int .i64 (H : Int), .int .i64 (P : Int), .slice (some ⟨g, 0, none⟩) n c2]⟩, ⟨w.heap.size + 2, 29, #[.int .i64 0, .int .i64 0, .int .i64 0, .slice none 0 0]⟩, ⟨w.heap.size + 1, 32, #[.int .i64 (R : Int), .slice Ak N ck, .int .i64 (D : Int)]⟩, ⟨w.heap.size, 29, #[.int .i64 (W : Int), .int .i64 (H : Int), .int .i64 (P : Int), .slice A xs.length c]⟩])) (fun ix _ => W - (intOf ix).toNat)
          case atStart => exact ⟨0, q, Nat.zero_le _, rfl, Lib.hid (by rw [hq.out]; simp), hI⟩
          case round =>
            clear hI hq q d0 d1 d2 d3
            obtain ⟨x, q, hx, rfl, hq, hI⟩ := hrel
            obtain ⟨d0, d1, d2, d3⟩ := hI.out.b3_4
            by_cases hxlt : x < W
            · go_wp2
              go_loopw [8] (fun ip wr => ∃ (p q : Nat), p ≤ P ∧ ip = .int .i64 p ∧ Hid (q = (y * W + x) * P + p) ∧ Hid (GS w wr [ri lo3 hi3 (.slice (some ⟨g, 0, none⟩) n c2) (L.take q ++ xs.drop q)] [⟨b3, 29, #[.int .i64 (W : Int), .int .i64 (H : Int), .int .i64 (P : Int), .slice (some ⟨g, 0, none⟩) n c2]⟩, ⟨w.heap.size + 2, 29, #[.int .i64 0, .int .i64 0, .int .i64 0, .slice none 0 0]⟩, ⟨w.heap.size + 1, 32, #[.int .i64 (R : Int), .slice Ak N ck, .int .i64 (D : Int)]⟩, ⟨w.heap.size, 29, #[.int .i64 (W : Int), .int .i64 (H : Int), .int .i64 (P : Int), .slice A xs.length c]⟩])) (fun ip _ => P - (intOf ip).toNat)
              case atStart => exact ⟨0, q, Nat.zero_le _, rfl, Lib.hid (by rw [hq.out]; simp), hI⟩
              case round =>
                clear hI hq q d0 d1 d2 d3
                obtain ⟨p, q, hp, rfl, hq, hI⟩ := hrel
                obtain ⟨d0, d1, d2, d3⟩ := hI.out.b3_4
                by_cases hplt : p < P
                · have hlt := row_lt (W := W) (H := H) hxlt hylt
                  obtain ⟨j1, g1⟩ : ∃ j, j = y * W := ⟨_, rfl⟩
                  obtain ⟨j2, g2⟩ : ∃ j, j = j1 + x := ⟨_, rfl⟩
                  obtain ⟨j3, g3⟩ : ∃ j, j = j2 * P := ⟨_, rfl⟩
                  have g4 : q = j3 + p := by rw [hq.out, g3, g2, g1]
                  have hj2 : j2 < W * H := by rw [g2, g1]; exact hlt
                  have hWH : W * H ≤ 256 := Nat.mul_le_mul hW hH
                  have hqn : q < n := by
                    rw [HNp.out, g4, g3]
                    have := Nat.mul_le_mul_right P (show j2 + 1 ≤ W * H from hj2)
                    rw [Nat.add_mul, Nat.one_mul] at this
                    omega
                  have i1 : (y : Int) * (W : Int) = (j1 : Int) := by rw [g1]; simp
                  have i2 : (j1 : Int) + (x : Int) = (j2 : Int) := by rw [g2]; simp
                  have i3 : (j2 : Int) * (P : Int) = (j3 : Int) := by rw [g3]; simp
                  have i4 : (j3 : Int) + (p : Int) = (q : Int) := by rw [g4]; simp
                  have w1 := wr_natC (n := j1) (by omega)
                  have w2 := wr_natC (n := j2) (by omega)
                  have w3 := wr_natC (n := j3) (by omega)
                  have w4 := wr_natC (n := q) (by omega)
                  have hqI : (q : Int) < (n : Int) := by omega
                  obtain ⟨sv, hsv⟩ : ∃ s, s = cvS (fun a b => px W P xs a b p) W H R ks x y ks.length := ⟨_, rfl⟩
                  have hsb := cvS_bd (R := R) hW1 hH1 (HF.out p hplt) HKb.out x y ks.length (Nat.le_refl _)
                  rw [← hsv] at hsb
                  have hsb2 : -700000 ≤ sv ∧ sv ≤ 700000 := by have := HN.out; omega
                  obtain ⟨sb0, sb1⟩ := hsb2
                  obtain ⟨vq, hvq⟩ : ∃ v, (2 * sv + (D : Int)) / (2 * (D : Int)) = v := ⟨_, rfl⟩
                  have HCv : Hid (∀ u, Rds .i64 u u.heap.size A xs → Rds .i64 u u.heap.size Ak ks → Calls Try.prog 28 #[.agg #[.int .i64 (W : Int), .int .i64 (H : Int), .int .i64 (P : Int), .slice A xs.length c], .agg #[.int .i64 (R : Int), .slice Ak N ck, .int .i64 (D : Int)], .int .i64 (x : Int), .int .i64 (y : Int), .int .i64 (p : Int)] u fun e w' => e = .returned (.int .i64 sv) ∧ Below u.heap.size u w') := Lib.hid (fun u a b => by rw [hsv]; exact sCv_any W H P R p N (D : Int) hW1 hW hH1 hH hP hplt hR2 Ak ck ks HN.out hN25 HKb.out A c xs HLn.out (HF.out p hplt) x y hxlt hylt u a b)
                  have HFl : Hid (∀ u, Calls Try.prog 27 #[.int .i64 (2 * sv + (D : Int)), .int .i64 (2 * (D : Int))] u fun e w' => e = .returned (.int .i64 vq) ∧ u = w') := Lib.hid (fun u => by rw [← hvq]; exact sFlr_any _ _ u (by omega) (by omega) (by omega))
                  have hvb : -1000000 ≤ vq ∧ vq ≤ 1000000 := by
                    rw [← hvq]
                    have a1 := Int.ediv_mul_le (2 * sv + (D : Int)) (show 2 * (D : Int) ≠ 0 by omega)
                    have a2 := Int.lt_ediv_add_one_mul_self (2 * sv + (D : Int)) (show 0 < 2 * (D : Int) by omega)
                    generalize (2 * sv + (D : Int)) / (2 * (D : Int)) = V at a1 a2 ⊢
                    constructor
                    · by_cases hV : V < -1000000
                      · have : (V + 1) * (2 * (D : Int)) ≤ -1000000 * (2 * (D : Int)) := Int.mul_le_mul_of_nonneg_right (by omega) (by omega)
                        omega
                      · omega
                    · by_cases hV : 1000000 < V
                      · have : 1000000 * (2 * (D : Int)) ≤ V * (2 * (D : Int)) := Int.mul_le_mul_of_nonneg_right (by omega) (by omega)
                        omega
                      · omega
                  have HVq : Hid (L.getD q 0 = lim vq 0 255) := Lib.hid (by
                    rw [HL.out, g4, g3]
                    unfold cvL
                    rw [img_at _ hj2 hplt, g2, g1, row_mod hxlt, row_div hxlt]
                    unfold cvV
                    rw [← hsv, hvq])
                  have HSet : Hid ((L.take q ++ xs.drop q).set q (lim vq 0 255) = L.take (q + 1) ++ xs.drop (q + 1)) := Lib.hid (by rw [← HVq.out]; exact take_putC (by rw [HLl.out, HNn.out]) (by rw [← HNn.out]; exact hqn))
                  have hlq : (L.take q ++ xs.drop q).length = n := by
                    have h1 := HLl.out
                    have h2 := HNn.out
                    simp; omega
                  have HLq := Lib.hid hlq
                  have v1 : IntKind.i64.wrap (2 * sv) = 2 * sv := IntWalk.i64_in _ (by omega)
                  have v2 : IntKind.i64.wrap (2 * sv + (D : Int)) = 2 * sv + (D : Int) := IntWalk.i64_in _ (by omega)
                  have v3 : IntKind.i64.wrap (2 * (D : Int)) = 2 * (D : Int) := IntWalk.i64_in _ (by omega)
                  have Hg4 := Lib.hid (show q + 1 = (y * W + x) * P + (p + 1) by rw [hq.out]; omega)
                  have HC := Lib.hid hI.out.drew
                  clear hI hq g1 g2 g3 g4 hj2 hsv hvq hlt hlq hsb
                  go_upto_region 13 with fail
                  clear d0 d1 d2 d3
                  refine wp_region_held_drew (S := (fun w' => w'.cell? ⟨w.heap.size, 0, none⟩ = some (.int .i64 (W : Int)) ∧ w'.cell? ⟨w.heap.size, 1, none⟩ = some (.int .i64 (H : Int)) ∧ w'.cell? ⟨w.heap.size, 2, none⟩ = some (.int .i64 (P : Int)) ∧ w'.cell? ⟨w.heap.size, 3, none⟩ = some (.slice A xs.length c) ∧ w'.cell? ⟨(w.heap.size + 1), 0, none⟩ = some (.int .i64 (R : Int)) ∧ w'.cell? ⟨(w.heap.size + 1), 1, none⟩ = some (.slice Ak N ck) ∧ w'.cell? ⟨(w.heap.size + 1), 2, none⟩ = some (.int .i64 (D : Int)))) (by kernel_rfl) (by exact ⟨HC.out.b3_4.1, HC.out.b3_4.2.1, HC.out.b3_4.2.2.1, HC.out.b3_4.2.2.2, HC.out.b2_3.1, HC.out.b2_3.2.1, HC.out.b2_3.2.2⟩) (fun hHeld => ?_)
                  refine' wpAnyH_take (i := 0) (oi := _) (v := _) ?hi1 (by kernel_rfl) (by kernel_rfl) (by kernel_rfl) ?hq1 (Or.inl ⟨?hw1, ?hy1⟩) (by assumption) ?rest1
                  case hi1 => (simp only [List.getElem?_toArray, List.getElem?_cons_succ, List.getElem?_cons_zero]; rfl)
                  case hq1 => exact fun _ _ _ h => h
                  case hw1 => rfl
                  case hy1 => (intro wq hSw; (try dsimp only at hSw); go_simp; (try with_reducible rfl))
                  (try simp only [Act.put, List.setIfInBounds_toArray, List.set_cons_zero, List.set_cons_succ])
                  refine' wpAnyH_take (i := 1) (oi := _) (v := _) ?hi2 (by kernel_rfl) (by kernel_rfl) (by kernel_rfl) ?hq2 (Or.inl ⟨?hw2, ?hy2⟩) (by assumption) ?rest2
                  case hi2 => (simp only [List.getElem?_toArray, List.getElem?_cons_succ, List.getElem?_cons_zero]; rfl)
                  case hq2 => exact fun _ _ _ h => h
                  case hw2 => rfl
                  case hy2 => (intro wq hSw; (try dsimp only at hSw); go_simp; (try with_reducible rfl))
                  (try simp only [Act.put, List.setIfInBounds_toArray, List.set_cons_zero, List.set_cons_succ])
                  refine' wpAnyH_take (i := 2) (oi := _) (v := _) ?hi3 (by kernel_rfl) (by kernel_rfl) (by kernel_rfl) ?hq3 (Or.inl ⟨?hw3, ?hy3⟩) (by assumption) ?rest3
                  case hi3 => (simp only [List.getElem?_toArray, List.getElem?_cons_succ, List.getElem?_cons_zero]; rfl)
                  case hq3 => exact fun _ _ _ h => h
                  case hw3 => rfl
                  case hy3 => (intro wq hSw; (try dsimp only at hSw); go_simp; (try with_reducible rfl))
                  (try simp only [Act.put, List.setIfInBounds_toArray, List.set_cons_zero, List.set_cons_succ])
                  refine' wpAnyH_take (i := 3) (oi := _) (v := _) ?hi4 (by kernel_rfl) (by kernel_rfl) (by kernel_rfl) ?hq4 (Or.inl ⟨?hw4, ?hy4⟩) (by assumption) ?rest4
                  case hi4 => (simp only [List.getElem?_toArray, List.getElem?_cons_succ, List.getElem?_cons_zero]; rfl)
                  case hq4 => exact fun _ _ _ h => h
                  case hw4 => rfl
                  case hy4 => (intro wq hSw; (try dsimp only at hSw); go_simp; (try with_reducible rfl))
                  (try simp only [Act.put, List.setIfInBounds_toArray, List.set_cons_zero, List.set_cons_succ])
                  refine' wpAnyH_take (i := 4) (oi := _) (v := _) ?hi5 (by kernel_rfl) (by kernel_rfl) (by kernel_rfl) ?hq5 (Or.inl ⟨?hw5, ?hy5⟩) (by assumption) ?rest5
                  case hi5 => (simp only [List.getElem?_toArray, List.getElem?_cons_succ, List.getElem?_cons_zero]; rfl)
                  case hq5 => exact fun _ _ _ h => h
                  case hw5 => rfl
                  case hy5 => (intro wq hSw; (try dsimp only at hSw); go_simp; (try with_reducible rfl))
                  (try simp only [Act.put, List.setIfInBounds_toArray, List.set_cons_zero, List.set_cons_succ])
                  refine' wpAnyH_take (i := 7) (oi := _) (v := _) ?hi6 (by kernel_rfl) (by kernel_rfl) (by kernel_rfl) ?hq6 (Or.inl ⟨?hw6, ?hy6⟩) (by assumption) ?rest6
                  case hi6 => (simp only [List.getElem?_toArray, List.getElem?_cons_succ, List.getElem?_cons_zero]; rfl)
                  case hq6 => exact fun _ _ _ h => h
                  case hw6 => rfl
                  case hy6 => (intro wq hSw; (try dsimp only at hSw); go_simp; (try with_reducible rfl))
                  (try simp only [Act.put, List.setIfInBounds_toArray, List.set_cons_zero, List.set_cons_succ])
                  refine' wpAnyH_take (i := 8) (oi := _) (v := _) ?hi7 (by kernel_rfl) (by kernel_rfl) (by kernel_rfl) ?hq7 (Or.inl ⟨?hw7, ?hy7⟩) (by assumption) ?rest7
                  case hi7 => (simp only [List.getElem?_toArray, List.getElem?_cons_succ, List.getElem?_cons_zero]; rfl)
                  case hq7 => exact fun _ _ _ h => h
                  case hw7 => rfl
                  case hy7 => (intro wq hSw; (try dsimp only at hSw); go_simp; (try with_reducible rfl))
                  (try simp only [Act.put, List.setIfInBounds_toArray, List.set_cons_zero, List.set_cons_succ])
                  refine' wpAnyH_take (i := 10) (oi := _) (v := _) ?hi8 (by kernel_rfl) (by kernel_rfl) (by kernel_rfl) ?hq8 (Or.inl ⟨?hw8, ?hy8⟩) (by assumption) ?rest8
                  case hi8 => (simp only [List.getElem?_toArray, List.getElem?_cons_succ, List.getElem?_cons_zero]; rfl)
                  case hq8 => exact fun _ _ _ h => h
                  case hw8 => rfl
                  case hy8 => (intro wq hSw; (try dsimp only at hSw); go_simp; (try with_reducible rfl))
                  (try simp only [Act.put, List.setIfInBounds_toArray, List.set_cons_zero, List.set_cons_succ])
                  refine' wpAnyH_take (i := 11) (oi := _) (v := _) ?hi9 (by kernel_rfl) (by kernel_rfl) (by kernel_rfl) ?hq9 (Or.inl ⟨?hw9, ?hy9⟩) (by assumption) ?rest9
                  case hi9 => (simp only [List.getElem?_toArray, List.getElem?_cons_succ, List.getElem?_cons_zero]; rfl)
                  case hq9 => exact fun _ _ _ h => h
                  case hw9 => rfl
                  case hy9 => (intro wq hSw; (try dsimp only at hSw); go_simp; (try with_reducible rfl))
                  (try simp only [Act.put, List.setIfInBounds_toArray, List.set_cons_zero, List.set_cons_succ])
                  refine' wpAnyH_take (i := 12) (oi := _) (v := _) ?hi10 (by kernel_rfl) (by kernel_rfl) (by kernel_rfl) ?hq10 (Or.inl ⟨?hw10, ?hy10⟩) (by assumption) ?rest10
                  case hi10 => (simp only [List.getElem?_toArray, List.getElem?_cons_succ, List.getElem?_cons_zero]; rfl)
                  case hq10 => exact fun _ _ _ h => h
                  case hw10 => rfl
                  case hy10 => (intro wq hSw; (try dsimp only at hSw); go_simp; (try with_reducible rfl))
                  (try simp only [Act.put, List.setIfInBounds_toArray, List.set_cons_zero, List.set_cons_succ])
                  refine wpAnyH_ready (rs := [5]) (by kernel_rfl) (by simp) ?_
                  refine' AllReadyH.cons (o := _) ?hi11 (fun K hK => ?rest11) AllReadyH.nil
                  case hi11 => (simp only [List.getElem?_toArray, List.getElem?_cons_succ, List.getElem?_cons_zero]; rfl)
                  go_simp
                  go_at_call 28
                  refine (HCv.out _ (HC.out.arg HX.out) (HC.out.arg HK.out)).mono ?_
                  rintro e w5 ⟨rfl, hB⟩
                  have HD := Lib.hid (HC.out.call hB)
                  clear HC hB
                  have HC := HD
                  clear HD
                  refine hK.out _ _ (by (try dsimp only); exact ⟨HC.out.b3_4.1, HC.out.b3_4.2.1, HC.out.b3_4.2.2.1, HC.out.b3_4.2.2.2, HC.out.b2_3.1, HC.out.b2_3.2.1, HC.out.b2_3.2.2⟩) (fun hHeld => ?_)
                  clear hK K
                  (try simp only [Act.put, List.setIfInBounds_toArray, List.set_cons_zero, List.set_cons_succ])
                  refine' wpAnyH_take (i := 6) (oi := _) (v := _) ?hi12 (by kernel_rfl) (by kernel_rfl) (by kernel_rfl) ?hq12 (Or.inl ⟨?hw12, ?hy12⟩) (by assumption) ?rest12
                  case hi12 => (simp only [List.getElem?_toArray, List.getElem?_cons_succ, List.getElem?_cons_zero]; rfl)
                  case hq12 => exact fun _ _ _ h => h
                  case hw12 => rfl
                  case hy12 => (intro wq hSw; (try dsimp only at hSw); go_simp; (try with_reducible rfl))
                  (try simp only [Act.put, List.setIfInBounds_toArray, List.set_cons_zero, List.set_cons_succ])
                  refine' wpAnyH_take (i := 9) (oi := _) (v := _) ?hi13 (by kernel_rfl) (by kernel_rfl) (by kernel_rfl) ?hq13 (Or.inl ⟨?hw13, ?hy13⟩) (by assumption) ?rest13
                  case hi13 => (simp only [List.getElem?_toArray, List.getElem?_cons_succ, List.getElem?_cons_zero]; rfl)
                  case hq13 => exact fun _ _ _ h => h
                  case hw13 => rfl
                  case hy13 => (intro wq hSw; (try dsimp only at hSw); go_simp; (try with_reducible rfl))
                  (try simp only [Act.put, List.setIfInBounds_toArray, List.set_cons_zero, List.set_cons_succ])
                  refine wpAnyH_ready (rs := [13]) (by kernel_rfl) (by simp) ?_
                  refine' AllReadyH.cons (o := _) ?hi14 (fun K hK => ?rest14) AllReadyH.nil
                  case hi14 => (simp only [List.getElem?_toArray, List.getElem?_cons_succ, List.getElem?_cons_zero]; rfl)
                  go_simp
                  go_at_call 27
                  refine (HFl.out _).mono ?_
                  rintro e w6 ⟨rfl, rfl⟩
                  refine hK.out _ _ (by (try dsimp only); exact ⟨HC.out.b3_4.1, HC.out.b3_4.2.1, HC.out.b3_4.2.2.1, HC.out.b3_4.2.2.2, HC.out.b2_3.1, HC.out.b2_3.2.1, HC.out.b2_3.2.2⟩) (fun hHeld => ?_)
                  clear hK K
                  (try simp only [Act.put, List.setIfInBounds_toArray, List.set_cons_zero, List.set_cons_succ])
                  refine' wpAnyH_take (i := 14) (oi := _) (v := _) ?hi15 (by kernel_rfl) (by kernel_rfl) (by kernel_rfl) ?hq15 (Or.inl ⟨?hw15, ?hy15⟩) (by assumption) ?rest15
                  case hi15 => (simp only [List.getElem?_toArray, List.getElem?_cons_succ, List.getElem?_cons_zero]; rfl)
                  case hq15 => exact fun _ _ _ h => h
                  case hw15 => rfl
                  case hy15 => (intro wq hSw; (try dsimp only at hSw); go_simp; (try with_reducible rfl))
                  (try simp only [Act.put, List.setIfInBounds_toArray, List.set_cons_zero, List.set_cons_succ])
                  refine wpAnyH_done (by kernel_rfl) ?_ _
                  have hcw := HC.out.o0.cell (HLq.out.symm) (j := q) (by rw [HLq.out]; exact hqn)
                  have hfw := HC.out.o0.frozen (HLq.out.symm) q
                  generalize (L.take q ++ xs.drop q).getD q 0 = old at *
                  have HP : Hid (∀ z : Int, z = lim vq 0 255 → GS w (w5.setCell ⟨g, q, none⟩ (.int .i64 z)) [ri lo3 hi3 (.slice (some ⟨g, 0, none⟩) n c2) (L.take (q + 1) ++ xs.drop (q + 1))] [⟨b3, 29, #[.int .i64 (W : Int), .int .i64 (H : Int), .int .i64 (P : Int), .slice (some ⟨g, 0, none⟩) n c2]⟩, ⟨w.heap.size + 2, 29, #[.int .i64 0, .int .i64 0, .int .i64 0, .slice none 0 0]⟩, ⟨w.heap.size + 1, 32, #[.int .i64 (R : Int), .slice Ak N ck, .int .i64 (D : Int)]⟩, ⟨w.heap.size, 29, #[.int .i64 (W : Int), .int .i64 (H : Int), .int .i64 (P : Int), .slice A xs.length c]⟩]) := Lib.hid (fun z hz => by
                    have hp := HC.out.o0.put HLq.out.symm q z
                    rw [hz, HSet.out] at hp
                    rw [hz]
                    exact GS.mark0 HC.out hp.1 (by rw [← HSet.out, List.length_set]) hp.2)
                  have HC2 := HC
                  obtain ⟨d0, d1, d2, d3⟩ := HC.out.b0_4
                  obtain ⟨m0, m1, m2, m3⟩ := HC.out.b3_4
                  clear HC HCv HFl
                  have hz0 : lim vq 0 255 = min (max vq 0) 255 := rfl
                  by_cases c1 : 0 < vq
                  · by_cases c2' : vq < 255
                    · have HE := Lib.hid (HP.out vq (by rw [hz0]; omega))
                      clear hz0 HP
                      go_wp2
                      go_roundw
                      case rel => exact ⟨p + 1, q + 1, by omega, by go_num, Hg4, HE⟩
                      case measure => simp [intOf]; omega
                    · have HE := Lib.hid (HP.out 255 (by rw [hz0]; omega))
                      clear hz0 HP
                      go_wp2
                      go_roundw
                      case rel => exact ⟨p + 1, q + 1, by omega, by go_num, Hg4, HE⟩
                      case measure => simp [intOf]; omega
                  · have HE := Lib.hid (HP.out 0 (by rw [hz0]; omega))
                    clear hz0 HP
                    go_wp2
                    go_roundw
                    case rel => exact ⟨p + 1, q + 1, by omega, by go_num, Hg4, HE⟩
                    case measure => simp [intOf]; omega
                · have hpP : p = P := by omega
                  have HQ : Hid (q = (y * W + (x + 1)) * P) := Lib.hid (by rw [hq.out, hpP, ← Nat.add_assoc, Nat.add_mul (y * W + x) 1 P, Nat.one_mul])
                  clear hq
                  go_wp2
                  go_roundw
                  case rel => exact ⟨x + 1, q, by omega, by go_num, HQ, hI⟩
                  case measure => simp [intOf]; omega
            · have hxa : x = W := by omega
              have HQ : Hid (q = (y + 1) * W * P) := Lib.hid (by rw [hq.out, hxa, Nat.add_mul y 1 W, Nat.one_mul])
              clear hq
              go_wp2
              go_roundw
              case rel => exact ⟨y + 1, q, by omega, by go_num, HQ, hI⟩
              case measure => simp [intOf]; omega
        · have hyb : y = H := by omega
          have hqn : q = n := by rw [hq.out, HNp.out, hyb, Nat.mul_comm H W]
          have hG := hI.out
          have hfl : L.take n ++ xs.drop n = L := by
            have h1 := HLl.out
            have h2 := HNn.out
            rw [List.take_of_length_le (by omega), List.drop_eq_nil_of_le (by omega), List.append_nil]
          rw [hqn, hfl, HL.out] at hG
          have HNl := Lib.hid (show n = (cvL W H P xs R ks D).length by rw [← HL.out]; exact HLl.out.symm)
          obtain ⟨r0, r1, r2, r3⟩ := hG.b1_4
          obtain ⟨o0, o1, o2, o3⟩ := hG.b0_4
          have f0 := hG.f1 0
          have f1 := hG.f1 1
          have f2 := hG.f1 2
          have f3 := hG.f1 3
          have HE := Lib.hid (hG.e1_4 (.int .i64 (W : Int)) (.int .i64 (H : Int)) (.int .i64 (P : Int)) (.slice (some ⟨g, 0, none⟩) n c2))
          clear hI hyb hG hqn hq hfl
          go_wp2
          exact bodyPost_ret (v := .agg #[.int .i64 (W : Int), .int .i64 (H : Int), .int .i64 (P : Int), .slice (some ⟨g, 0, none⟩) n c2]) (by simp [results, Try.results8, go_sem, r0, r1, r2, r3]) rfl (MadeIf.yes Ht.out ⟨_, rfl, HE.out.2 _ (List.Mem.head _), HE.out.1⟩)
end Go.Proofs.Ytjgcondkoaegnaa
