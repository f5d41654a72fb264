/- A map of the call's own whose keys are colors: what it may hold. -/
import Derived.Test.YtjcohmljpokgcaaNcM
import Derived.Test.YtjcohmljpokgcaaGridA
import Derived.Maps.Own
import Derived.Maps.OwnOps
import Derived.Maps.Views
import Derived.DeepKeys4
import Derived.WideKeyPair
namespace Go.Proofs.Ytjcohmljpokgcaa
open Go.RowKit Go.WideMaps Go.WideElems Go.Maps
set_option linter.unusedSimpArgs false
set_option linter.unusedVariables false

theorem colLaid : laidOutB Try.prog = true := by kernel_rfl
theorem colRow : (62 : TypeId) < Try.prog.types.size := of_decide_eq_true (by kernel_rfl)
theorem colCells : Try.prog.cellsOf 62 = 4 := by kernel_rfl
theorem colArr : ArrKey Try.prog 62 3 4 := ⟨Try.underlying62, by kernel_rfl, by kernel_rfl, colCells⟩
theorem colWide : (match Try.prog.underlying 62 with | some (.array _ _) | some (.struct _) => true | _ => false) = true := by rw [Try.underlying62]
set_option maxRecDepth 100000 in
theorem colKeyed : Keyed Try.prog 62 := Keyed.of_law (deep_law_laid colLaid (m := 2) (by omega) colRow (by kernel_rfl) colWide)
theorem colSize : ∃ m, Try.prog.types.size = m + 1 := ⟨_, (Nat.succ_pred_eq_of_pos (Nat.lt_of_le_of_lt (Nat.zero_le _) colRow)).symm⟩
theorem keyOf_four {P : Program} {k e : TypeId} {q : IntKind} (A : ArrKey P k e 4) (he : P.underlying e = some (.int q)) (hsz : ∃ m, P.types.size = m + 1) {a b c d : Int} (wa : (Lit.int q a).wf = true) (wb : (Lit.int q b).wf = true) (wc : (Lit.int q c).wf = true) (wd : (Lit.int q d).wf = true) :
    keyOf P k (.agg #[.int q a, .int q b, .int q c, .int q d]) = some (.string (keyBytes [.int q a, .int q b, .int q c, .int q d])) := by
  have hkt := A.keyType hsz
  obtain ⟨m, hm⟩ := hsz
  unfold keyOf
  simp only [A.hu]
  rw [if_pos (by simp [hkt, Value.formed, A.hu, A.size]), hm]
  unfold Program.keyLits
  simp only [A.hu, Value.cells]
  rw [if_pos (by rw [A.size]; rfl), show List.range 4 = [0, 1, 2, 3] from rfl, List.mapM_cons, List.mapM_cons, List.mapM_cons, List.mapM_cons, List.mapM_nil]
  simp [A.one, Program.keyLits, he, wa, wb, wc, wd]
/-- The key of a pixel. -/
def ckl (ys : List Int) : Lit := .string (keyBytes [.int .i64 (ys.getD 0 0), .int .i64 (ys.getD 1 0), .int .i64 (ys.getD 2 0), .int .i64 (ys.getD 3 0)])
theorem wf_byte {n : Int} (h : 0 ≤ n ∧ n ≤ 255) : (Lit.int .i64 n).wf = true := by
  have h : -1000 ≤ n ∧ n ≤ 1000 := by omega
  simp only [Lit.wf, Bool.and_eq_true, decide_eq_true_eq]
  exact ⟨by show -9223372036854775808 ≤ n; omega, by show n ≤ 9223372036854775807; omega⟩
theorem keyOf_col {ys : List Int} (h : allB 0 255 ys = true) : keyOf Try.prog 62 (colV (fun p => ys.getD p 0)) = some (ckl ys) :=
  keyOf_four colArr Try.underlying3 colSize (wf_byte (byte_all h 0)) (wf_byte (byte_all h 1)) (wf_byte (byte_all h 2)) (wf_byte (byte_all h 3))
theorem ckl_inj {P : Nat} {xs ys : List Int} (hP : P ≤ 4) (hx : xs.length = P) (hy : ys.length = P) (bx : allB 0 255 xs = true) (by' : allB 0 255 ys = true) (h : ckl xs = ckl ys) : xs = ys := by
  have e := colKeyed.inj (keyOf_col bx) (h ▸ keyOf_col by')
  unfold colV at e
  simp only [Value.agg.injEq] at e
  have e0 := congrArg (fun a : Array Value => a.toList) e
  simp at e0
  obtain ⟨e0, e1, e2, e3⟩ := e0
  refine List.ext_getElem (by omega) fun j h1 h2 => ?_
  have g : ∀ j, j < 4 → xs.getD j 0 = ys.getD j 0 := by
    intro j hj
    match j, hj with
    | 0, _ => simpa [List.getD_eq_getElem?_getD] using e0
    | 1, _ => simpa [List.getD_eq_getElem?_getD] using e1
    | 2, _ => simpa [List.getD_eq_getElem?_getD] using e2
    | 3, _ => simpa [List.getD_eq_getElem?_getD] using e3
  have := g j (by omega)
  simpa [List.getD_eq_getElem?_getD, h1, h2] using this
/-- Block b is a map of at most n colors; whatever it holds for a pixel of P numbers is nv. -/
def MpI (w : World) (b n P : Nat) (nv : List Int → Int) : Prop :=
  ∃ D : DataW Unit, IsMap D ∧ w.ownsMap Try.prog 62 (plainElem Try.prog 3) b n D ∧ ∀ ys : List Int, ys.length = P → allB 0 255 ys = true → (∀ z, D.atKey (ckl ys) z = z) ∨ ∀ z, D.atKey (ckl ys) z = .lit (.int .i64 (nv ys))
theorem MpI.made (w : World) (P : Nat) (nv : List Int → Int) : MpI (w.alloc (.map #[] 0)) w.heap.size 0 P nv :=
  ⟨.map [], isMap_empty, World.ownsMap_made w Try.prog 62 _, fun ys _ _ => .inl fun z => atKey_of_not_has (by simp [has_eq]) z⟩
theorem MpI.kept {w w' : World} {b n P : Nat} {nv : List Int → Int} (h : MpI w b n P nv) (hk : w'.heap[b]? = w.heap[b]?) : MpI w' b n P nv := by
  obtain ⟨D, h1, ⟨es, clock, hb, r⟩, h3⟩ := h
  exact ⟨D, h1, ⟨es, clock, hk.trans hb, r⟩, h3⟩
theorem MpI.mono {w : World} {b n P : Nat} {nv : List Int → Int} (h : MpI w b n P nv) {m : Nat} (hm : n ≤ m) : MpI w b m P nv := by
  obtain ⟨D, h1, h2, h3⟩ := h
  exact ⟨D, h1, h2.mono hm, h3⟩
theorem MpI.lt {w : World} {b n P : Nat} {nv : List Int → Int} (h : MpI w b n P nv) : b < w.heap.size := by
  obtain ⟨D, h1, h2, h3⟩ := h
  exact h2.lt
theorem mpi_zero (w : World) : (zeroValue 3).run Try.prog w = .ok (.int .i64 0) w := by kernel_rfl
/-- 'v, ok := m[k]'. -/
theorem MpI.look {w : World} {b n P : Nat} {nv : List Int → Int} (h : MpI w b n P nv) {ys : List Int} (hl : ys.length = P) (hy : allB 0 255 ys = true) :
    (Instr.lookup 70 (.map (some b)) (colV (fun p => ys.getD p 0)) true).run Try.prog w = .ok (.tuple #[.int .i64 0, .bool false]) w ∨ (Instr.lookup 70 (.map (some b)) (colV (fun p => ys.getD p 0)) true).run Try.prog w = .ok (.tuple #[.int .i64 (nv ys), .bool true]) w := by
  obtain ⟨D, h1, ⟨es, clock, hb, F, hs, rfl⟩, h3⟩ := h
  rcases fit_look true colKeyed Try.underlying70 (mpi_zero w) hb F (keyOf_col hy) with ⟨hrun, _, _⟩ | ⟨e0, y, _, _, hrun, hR, hat, _⟩
  · exact .inl hrun
  · right
    obtain ⟨c, hv, hz, _⟩ := plainElem_int_inv Try.underlying3 hR
    rcases h3 ys hl hy with hn | hn
    · have a1 := (hat (.lit (.int .i64 (c + 1)))).symm.trans (hn _)
      rw [hz] at a1
      simp at a1
      omega
    · have a1 := (hat .nil).symm.trans (hn _)
      rw [hz] at a1
      simp at a1
      rw [hrun, hv, a1]
      rfl
/-- 'm[k]' behind a store. -/
theorem MpI.get {w : World} {b n P : Nat} {nv : List Int → Int} (h : MpI w b n P nv) {ys : List Int} (hl : ys.length = P) (hy : allB 0 255 ys = true)
    (hin : (Instr.lookup 70 (.map (some b)) (colV (fun p => ys.getD p 0)) true).run Try.prog w = .ok (.tuple #[.int .i64 (nv ys), .bool true]) w) :
    (Instr.lookup 70 (.map (some b)) (colV (fun p => ys.getD p 0)) false).run Try.prog w = .ok (.int .i64 (nv ys)) w := by
  obtain ⟨D, h1, ⟨es, clock, hb, F, hs, rfl⟩, h3⟩ := h
  rcases fit_look true colKeyed Try.underlying70 (mpi_zero w) hb F (keyOf_col hy) with ⟨hrun, hno, _⟩ | ⟨e0, y, hm0, hk0, hrun, hR, hat, _⟩
  · rw [hrun] at hin
    simp at hin
  · rcases fit_look false colKeyed Try.underlying70 (mpi_zero w) hb F (keyOf_col hy) with ⟨_, hno, _⟩ | ⟨e1, y1, _, _, hrun1, hR1, hat1, _⟩
    · exact absurd hk0 (hno e0 hm0)
    · obtain ⟨c, hv, hz, _⟩ := plainElem_int_inv Try.underlying3 hR
      obtain ⟨c1, hv1, hz1, _⟩ := plainElem_int_inv Try.underlying3 hR1
      have a1 := (hat .nil).symm.trans (hat1 .nil)
      rw [hz, hz1] at a1
      simp at a1
      rw [hrun, hv] at hin
      simp at hin
      rw [hrun1, hv1, ← a1, hin]
      rfl
/-- 'm[k] = v'. -/
theorem MpI.store {w : World} {b n P : Nat} {nv : List Int → Int} (hP : P ≤ 4) (h : MpI w b n P nv) {ys : List Int} (hl : ys.length = P) (hy : allB 0 255 ys = true) (hn : n < maxLen) (hw : (Lit.int .i64 (nv ys)).wf = true) :
    ∃ w', (Instr.mapUpdate 70 (.map (some b)) (colV (fun p => ys.getD p 0)) (.int .i64 (nv ys))).run Try.prog w = .ok () w' ∧ MpI w' b (n + 1) P nv ∧ w.grownBy w' (some b) ∧
      (Instr.lookup 70 (.map (some b)) (colV (fun p => ys.getD p 0)) true).run Try.prog w' = .ok (.tuple #[.int .i64 (nv ys), .bool true]) w' := by
  obtain ⟨D, h1, h2, h3⟩ := h
  obtain ⟨w', hrun, ho, hg⟩ := h2.update colKeyed Try.underlying70 hn (keyOf_col hy) (plainElem_int Try.underlying3 hw)
  have hM : MpI w' b (n + 1) P nv := by
    refine ⟨D.put (ckl ys) (.lit (.int .i64 (nv ys))), h1.put _ _, ho, fun zs hz hzb => ?_⟩
    by_cases e : ckl zs = ckl ys
    · have := ckl_inj hP hz hl hzb hy e
      subst this
      exact .inr fun z => atKey_put_same h1 (colKeyed.key (keyOf_col hy)) _ z
    · rcases h3 zs hz hzb with h | h
      · exact .inl fun z => (atKey_put_other e _ z).trans (h z)
      · exact .inr fun z => (atKey_put_other e _ z).trans (h z)
  refine ⟨w', hrun, hM, hg, ?_⟩
  obtain ⟨es, clock, hb, F, hs, hD⟩ := ho
  rcases fit_look true colKeyed Try.underlying70 (mpi_zero w') hb F (keyOf_col hy) with ⟨hrun2, _, hat⟩ | ⟨e0, y, _, _, hrun2, hR, hat, _⟩
  · have a1 := hat (.lit (.int .i64 (nv ys + 1)))
    rw [← hD, atKey_put_same h1 (colKeyed.key (keyOf_col hy))] at a1
    simp at a1
    omega
  · obtain ⟨c, hv, hz, _⟩ := plainElem_int_inv Try.underlying3 hR
    have a1 := hat .nil
    rw [← hD, atKey_put_same h1 (colKeyed.key (keyOf_col hy)), hz] at a1
    simp at a1
    rw [hrun2, hv, ← a1]
    rfl
end Go.Proofs.Ytjcohmljpokgcaa
