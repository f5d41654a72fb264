/- One plane of an image as a grid of numbers; grids appended to a slice of grids. -/
import Derived.Test.YtfeldhhbnhdodaaGridN
import Derived.Shelf.Abstract
namespace Go.Proofs.Ytfeldhhbnhdodaa
open Go.RowKit Go.Shelf
set_option linter.unusedSimpArgs false
set_option linter.unusedVariables false
set_option maxRecDepth 20000

set_option maxHeartbeats 4000000 in
theorem iPl1_any (W H P p : Nat) (hW : W ≤ 16) (hH : H ≤ 16) (hP : P ≤ 4) (hp : p < P) (A : Option Addr) (c : Nat) (xs : List Int) (hl : xs.length = W * H * P) (x y : Nat) (hx : x < W) (hy : y < H) (pm pp : Nat) (w : World) (hr : Rds .i64 w w.heap.size A xs)
    (h1 : Bx w pm 25 #[.int .i64 (W : Int), .int .i64 (H : Int), .int .i64 (P : Int), .slice A xs.length c]) (h2 : Bx w pp 3 #[.int .i64 (p : Int)]) :
    Calls Try.prog 54 (#[.int .i64 (x : Int), .int .i64 (y : Int)] ++ #[.pointer (some ⟨pm, 0, none⟩), .pointer (some ⟨pp, 0, none⟩)]) w fun e w' => e = .returned (.int .i64 (px W P xs x y p)) ∧ Below w.heap.size w w' := by
  obtain ⟨m0, m1, m2, m3⟩ := bx4 h1
  have p0 := bx1 h2
  have hlt := row_lt hx hy
  have hWH : W * H ≤ 256 := by have := Nat.mul_le_mul hW hH; omega
  obtain ⟨q1, e1⟩ : ∃ q, q = y * W := ⟨_, rfl⟩
  obtain ⟨q2, e2⟩ : ∃ q, q = q1 + x := ⟨_, rfl⟩
  obtain ⟨q3, e3⟩ : ∃ q, q = q2 * P := ⟨_, rfl⟩
  obtain ⟨k, e4⟩ : ∃ k, k = q3 + p := ⟨_, rfl⟩
  have hq2 : q2 < W * H := by rw [e2, e1]; exact hlt
  have hk : k < xs.length := by
    rw [hl, e4, e3]
    have := Nat.mul_le_mul_right P (show q2 + 1 ≤ W * H from hq2)
    rw [Nat.add_mul, Nat.one_mul] at this
    omega
  have hx1024 : xs.length ≤ 1024 := by rw [hl]; have := Nat.mul_le_mul hWH hP; omega
  obtain ⟨b, off, rfl, hb, hcc⟩ := hr.cells_ hk
  have hck := hcc k hk
  have ep : px W P xs x y p = xs.getD k 0 := by unfold px pix; rw [e4, e3, e2, e1]
  rw [ep]
  have i1 : (y : Int) * (W : Int) = (q1 : Int) := by rw [e1]; simp
  have i2 : (q1 : Int) + (x : Int) = (q2 : Int) := by rw [e2]; simp
  have i3 : (q2 : Int) * (P : Int) = (q3 : Int) := by rw [e3]; simp
  have i4 : (q3 : Int) + (p : Int) = (k : Int) := by rw [e4]; simp
  have b1 : q1 ≤ 2000 := by omega
  have b3 : q3 ≤ 2000 := by omega
  have w1 : IntKind.i64.wrap (q1 : Int) = (q1 : Int) := IntWalk.i64_in _ (by omega)
  have w2 : IntKind.i64.wrap (q2 : Int) = (q2 : Int) := IntWalk.i64_in _ (by omega)
  have w3 : IntKind.i64.wrap (q3 : Int) = (q3 : Int) := IntWalk.i64_in _ (by omega)
  have w4 : IntKind.i64.wrap (k : Int) = (k : Int) := IntWalk.i64_in _ (by omega)
  have hkI : (k : Int) < (xs.length : Int) := by omega
  generalize xs.getD k 0 = z at *
  clear hcc hr e1 e2 e3 e4 hq2 ep h1 h2 hlt
  show Calls Try.prog 54 #[.int .i64 (x : Int), .int .i64 (y : Int), .pointer (some ⟨pm, 0, none⟩), .pointer (some ⟨pp, 0, none⟩)] w _
  go_enter Try.func54, Try.ntmps54
  go_wp2
  go_ret
  exact ⟨rfl, Below.refl _ _⟩
set_option maxHeartbeats 4000000 in
theorem iPlane_any (W H P p : Nat) (hW : W ≤ 16) (hH : H ≤ 16) (hP : P ≤ 4) (hp : p < P) (A : Option Addr) (c : Nat) (xs : List Int) (hl : xs.length = W * H * P) (w : World) (hr : Rds .i64 w w.heap.size A xs) :
    Calls Try.prog 31 #[.agg #[.int .i64 (W : Int), .int .i64 (H : Int), .int .i64 (P : Int), .slice A xs.length c], .int .i64 (p : Int)] w (GridI W H (fun x y => px W P xs x y p) w) := by
  have Hr := Lib.hid hr
  have Hl := Lib.hid hl
  have Eg : Hid (∀ args w, (callFunc 54 args).run Try.prog w = .ok (.enter 54 args) w) := Lib.hid (enters_of Try.func54 (by kernel_rfl) rfl)
  have S0 : GS w (((w.alloc (.cells #[.int .i64 (W : Int), .int .i64 (H : Int), .int .i64 (P : Int), .slice A xs.length c] 25)).alloc (.cells #[.int .i64 (p : Int)] 3)).alloc (.cells #[.int .i64 0, .int .i64 0, .slice none 0 0] 52)) [] [⟨w.heap.size + 2, 52, #[.int .i64 0, .int .i64 0, .slice none 0 0]⟩, ⟨w.heap.size + 1, 3, #[.int .i64 (p : Int)]⟩, ⟨w.heap.size, 25, #[.int .i64 (W : Int), .int .i64 (H : Int), .int .i64 (P : Int), .slice A xs.length c]⟩] :=
    GS.box' (GS.box' (GS.box' (GS.start w) _ _ w.heap.size (by simp)) _ _ (w.heap.size + 1) (by simp)) _ _ (w.heap.size + 2) (by simp)
  have HS := Lib.hid S0
  clear hr hl S0
  go_enter Try.func31, Try.ntmps31
  go_wp2_with fail
  generalize ((w.alloc (.cells #[.int .i64 (W : Int), .int .i64 (H : Int), .int .i64 (P : Int), .slice A xs.length c] 25)).alloc (.cells #[.int .i64 (p : Int)] 3)).alloc (.cells #[.int .i64 0, .int .i64 0, .slice none 0 0] 52) = u at *
  refine (buildN_any W H hW hH 54 #[.pointer (some ⟨w.heap.size, 0, none⟩), .pointer (some ⟨w.heap.size + 1, 0, none⟩)] (fun x y => px W P xs x y p) u Eg.out (fun x y w' hx hy hbel =>
    iPl1_any W H P p hW hH hP hp A c xs Hl.out x y hx hy w.heap.size (w.heap.size + 1) w' ((HS.out.call hbel).arg Hr.out) ((HS.out.call hbel).bx (by simp)) ((HS.out.call hbel).bx (by simp)))).mono ?_
  rintro e w2 ⟨v2, rfl, hO2, hB2⟩
  have S2 := HS.out.add hO2 hB2
  obtain ⟨A2, c2, rfl, _⟩ := hO2.slice
  obtain ⟨r0, r1, r2⟩ := S2.b0_3
  have f0 := S2.f0 0
  have f1 := S2.f0 1
  have f2 := S2.f0 2
  have HE := Lib.hid (S2.e0_3 (.int .i64 (W : Int)) (.int .i64 (H : Int)) (.slice A2 (img W H 1 (fun x y _ => px W P xs x y p)).length c2))
  clear S2 HS hO2 hB2 Hr Eg
  go_wp2
  exact bodyPost_ret (v := .agg #[.int .i64 (W : Int), .int .i64 (H : Int), .slice A2 (img W H 1 (fun x y _ => px W P xs x y p)).length c2]) (by simp [results, Try.results31, go_sem, r0, r1, r2]) rfl ⟨_, rfl, HE.out.2 _ (List.Mem.head _), HE.out.1⟩
theorem info_gridI : (Try.prog.info? 52).map (fun i => (i.zero, i.size, i.bytes)) = some (some (.agg #[.int .i64 0, .int .i64 0, .slice none 0 0]), 3, 40) := by kernel_rfl
theorem wpList_app3 {w : World} {ops : Array Oper} {rest : List Oper} {o : Oper} {a : Act} {Q : Exit → Act → World → Prop} (hgd : o.guard = none) (s x : Operand)
    (ho : o.op = .call { callee := .builtin .append, args := #[s, x], argTypes := #[56, 56] })
    (base : Nat) (v : Value) (n : Nat) (xs : List Value) (hs : a.eval s = v) (hown : w.ownsRow base 52 3 v n xs)
    (ad : Addr) (c : Nat) (u0 u1 u2 : Value) (hx : a.eval x = .slice (some ad) 1 c) (hnews : ∀ j u, [u0, u1, u2][j]? = some u → w.cell? (ad.add j) = some u) (h1 : ∀ u ∈ [u0, u1, u2], u.oneCell' = true) (hn : n ≤ 1000) (hbase : base ≤ w.heap.size)
    (h : ∀ v' w', w'.ownsRow base 52 3 v' (n + 1) (xs ++ [u0, u1, u2]) → w.grownBy w' v.ownBlock → (∀ g, v'.ownBlock = some g → v.ownBlock = some g ∨ w.heap.size ≤ g) → wpList Try.prog ops Q rest (a.put o.dst v') w') : wpList Try.prog ops Q (o :: rest) a w := by
  refine wpList_plain hgd fun _ hK => ?_
  obtain ⟨i, hi, hz, hsz, hb⟩ := info_parts info_gridI
  obtain ⟨v', w', hrun, h2, h3, h4⟩ := run_append_own (P := Try.prog) w base 56 o.type 52 i _ 3 40 Try.underlying56 hi hz hsz hb rfl (by omega) v n xs hown ad 1 c [u0, u1, u2] (by simp) hnews h1 (by unfold maxLen; omega) (by omega) hbase
  have hwh : ∀ g, v'.ownBlock = some g → v.ownBlock = some g ∨ w.heap.size ≤ g := by
    rcases hown.2 with ⟨rfl, h0⟩ | ⟨g0, cap, cur, rfl, hbg, hg, hnc, hcm, hcs, htake⟩
    · subst h0
      have hx0 : xs = [] := List.eq_nil_of_length_eq_zero (by simpa using hown.1)
      subst hx0
      obtain ⟨v2, w2, hr2, h22, _⟩ := run_append_own (P := Try.prog) w w.heap.size 56 o.type 52 i _ 3 40 Try.underlying56 hi hz hsz hb rfl (by omega) (.slice none 0 0) 0 [] (World.ownsRow_nil _ _ _ _) ad 1 c [u0, u1, u2] (by simp) hnews h1 (by unfold maxLen; omega) (by omega) (Nat.le_refl _)
      rw [hrun] at hr2
      injection hr2 with e1 e2
      subst e1
      intro g hg
      exact .inr (h22.lt g hg).1
    · intro g hg'
      by_cases hroom : n + 1 ≤ cap
      · have hr2 := run_append_room (P := Try.prog) w 56 o.type 52 i Try.underlying56 hi g0 n cap cur hg ad 1 c [u0, u1, u2] (by simp [hsz]) hnews h1 hroom (by rw [hsz, hcs]; simp; omega)
        rw [hrun] at hr2
        injection hr2 with e1 e2
        subst e1
        exact .inl hg'
      · have hr2 := run_append_grow (P := Try.prog) w 56 o.type 52 i _ Try.underlying56 hi hz ⟨g0, 0, none⟩ n cap xs (by rw [hsz]; exact hown.1) (World.ownsRow.cells hown (g := g0) rfl) ad 1 c [u0, u1, u2] (by simp [hsz]) hnews (by omega) (by omega) (growslice_fits (by omega) (by rw [hb]; omega))
        rw [hrun] at hr2
        injection hr2 with e1 e2
        subst e1
        right
        simp [Value.ownBlock] at hg'
        omega
  unfold Oper.wp execOp
  simp only [ho, resolve, invoke, builtin, Sem.run_bind, Sem.run_pure, Result.andThen_ok, List.map_toArray, List.map_cons, List.map_nil, hs, hx, hrun]
  exact hK _ _ (h v' w' h2 h3 hwh)
/-- The cells of grids. -/
def plv (a b n : Nat) (As : Nat → Option Addr) (cs : Nat → Nat) : Nat → List Value
  | 0 => []
  | k + 1 => plv a b n As cs k ++ [.int .i64 (a : Int), .int .i64 (b : Int), .slice (As k) n (cs k)]
theorem plv_len (a b n : Nat) (As : Nat → Option Addr) (cs : Nat → Nat) : ∀ k, (plv a b n As cs k).length = k * 3
  | 0 => rfl
  | k + 1 => by show (plv a b n As cs k ++ _).length = _; rw [List.length_append, plv_len a b n As cs k]; simp; omega
theorem plv_get (a b n : Nat) (As : Nat → Option Addr) (cs : Nat → Nat) (i : Nat) : ∀ k, i < k → (plv a b n As cs k)[i * 3]? = some (.int .i64 (a : Int)) ∧ (plv a b n As cs k)[i * 3 + 1]? = some (.int .i64 (b : Int)) ∧ (plv a b n As cs k)[i * 3 + 2]? = some (.slice (As i) n (cs i))
  | 0, h => by omega
  | k + 1, h => by
    have hl := plv_len a b n As cs k
    show (plv a b n As cs k ++ [.int .i64 (a : Int), .int .i64 (b : Int), .slice (As k) n (cs k)])[i * 3]? = _ ∧ (plv a b n As cs k ++ [.int .i64 (a : Int), .int .i64 (b : Int), .slice (As k) n (cs k)])[i * 3 + 1]? = _ ∧ (plv a b n As cs k ++ [.int .i64 (a : Int), .int .i64 (b : Int), .slice (As k) n (cs k)])[i * 3 + 2]? = _
    by_cases e : i = k
    · subst e
      refine ⟨?_, ?_, ?_⟩
      · rw [List.getElem?_append_right (by omega), hl, show i * 3 - i * 3 = 0 by omega]; rfl
      · rw [List.getElem?_append_right (by omega), hl, show i * 3 + 1 - i * 3 = 1 by omega]; rfl
      · rw [List.getElem?_append_right (by omega), hl, show i * 3 + 2 - i * 3 = 2 by omega]; rfl
    · have hi := plv_get a b n As cs i k (by omega)
      rw [List.getElem?_append_left (by omega), List.getElem?_append_left (by omega), List.getElem?_append_left (by omega)]
      exact hi
theorem plv_ext {a b n : Nat} {As Bs : Nat → Option Addr} {cs ds : Nat → Nat} : ∀ {k : Nat}, (∀ i, i < k → As i = Bs i ∧ cs i = ds i) → plv a b n As cs k = plv a b n Bs ds k
  | 0, _ => rfl
  | k + 1, h => by
    show plv a b n As cs k ++ _ = plv a b n Bs ds k ++ _
    rw [plv_ext (k := k) (fun i hi => h i (by omega)), (h k (by omega)).1, (h k (by omega)).2]
end Go.Proofs.Ytfeldhhbnhdodaa
