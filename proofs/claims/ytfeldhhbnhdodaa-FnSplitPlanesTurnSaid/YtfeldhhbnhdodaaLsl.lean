/- Lists of lists of numbers: how a slice of slices reads, the rows that a call makes for one. -/
import Derived.Test.YtfeldhhbnhdodaaGen
import Derived.Test.YtfeldhhbnhdodaaOwnT
namespace Go.Proofs.Ytfeldhhbnhdodaa
open Go.RowKit
set_option linter.unusedSimpArgs false
set_option linter.unusedVariables false

/-- How many numbers the first k lists hold. -/
def tl (xss : List (List Int)) (k : Nat) : Nat := ((xss.take k).map List.length).sum
theorem tl_zero (xss : List (List Int)) : tl xss 0 = 0 := by simp [tl]
theorem tl_succ {xss : List (List Int)} {k : Nat} (h : k < xss.length) : tl xss (k + 1) = tl xss k + (xss.getD k []).length := by
  unfold tl
  rw [List.take_succ_eq_append_getElem h, List.map_append, List.sum_append]
  simp [List.getD_eq_getElem?_getD, h]
theorem tl_mono {xss : List (List Int)} : ∀ {k n : Nat}, k ≤ n → n ≤ xss.length → tl xss k ≤ tl xss n := by
  intro k n h
  induction n with
  | zero => intro _; rw [show k = 0 by omega]; exact Nat.le_refl _
  | succ n ih =>
    intro hn
    rcases Nat.lt_or_ge k (n + 1) with h1 | h1
    · exact Nat.le_trans (ih (by omega) (by omega)) (by rw [tl_succ (by omega)]; omega)
    · rw [show k = n + 1 by omega]; exact Nat.le_refl _
/-- How much a list of lists counts. -/
def tot (xss : List (List Int)) : Nat := xss.length + tl xss xss.length
theorem len_le_tot {xss : List (List Int)} {i : Nat} (h : i < xss.length) : (xss.getD i []).length ≤ tot xss := by
  have := tl_mono (xss := xss) (k := i + 1) (n := xss.length) (by omega) (Nat.le_refl _)
  rw [tl_succ h] at this
  unfold tot; omega
/-- The slice at A reads as the lists xss, below block B. -/
def Rdss (w : World) (B : Nat) (A : Option Addr) (xss : List (List Int)) : Prop :=
  xss = [] ∨ ∃ b off, A = some ⟨b, off, none⟩ ∧ b < B ∧ ∀ i, i < xss.length → ∃ (Ai : Option Addr) (ci : Nat), (xss.getD i []).length ≤ ci ∧ w.cell? ⟨b, off + i, none⟩ = some (.slice Ai (xss.getD i []).length ci) ∧ Rds .i64 w B Ai (xss.getD i [])
section
variable {w w' : World} {B B' : Nat} {A : Option Addr} {xss : List (List Int)}
theorem Rdss.keep (h : Rdss w B A xss) (hk : ∀ p : Addr, p.block < B → w'.cell? p = w.cell? p) : Rdss w' B A xss := by
  rcases h with h | ⟨b, off, rfl, hb, hc⟩
  · exact .inl h
  · refine .inr ⟨b, off, rfl, hb, fun i hi => ?_⟩
    obtain ⟨Ai, ci, h1, h2, h3⟩ := hc i hi
    exact ⟨Ai, ci, h1, (hk _ hb).trans h2, h3.keep hk⟩
theorem Rdss.more (h : Rdss w B A xss) (hB : B ≤ B') : Rdss w B' A xss := by
  rcases h with h | ⟨b, off, rfl, hb, hc⟩
  · exact .inl h
  · refine .inr ⟨b, off, rfl, by omega, fun i hi => ?_⟩
    obtain ⟨Ai, ci, h1, h2, h3⟩ := hc i hi
    exact ⟨Ai, ci, h1, h2, h3.more hB⟩
theorem Rdss.below (h : Rdss w B A xss) (hb : Below B w w') : Rdss w' B A xss := h.keep fun _ hp => hb.cell hp
theorem Rdss.at (h : Rdss w B A xss) {i : Nat} (hi : i < xss.length) : ∃ b off Ai ci, A = some ⟨b, off, none⟩ ∧ b < B ∧ (xss.getD i []).length ≤ ci ∧ w.cell? ⟨b, off + i, none⟩ = some (.slice Ai (xss.getD i []).length ci) ∧ Rds .i64 w B Ai (xss.getD i []) := by
  rcases h with h | ⟨b, off, rfl, hb, hc⟩
  · subst h; simp at hi
  · obtain ⟨Ai, ci, h⟩ := hc i hi
    exact ⟨b, off, Ai, ci, rfl, hb, h⟩
end
/-! ### Rows of rows in the state of an exact law -/
def hdr (lo hi : Nat) (A : Option Addr) (n c : Nat) (cs : List Value) : Rg := ⟨lo, hi, 23, 1, .slice A n c, n, cs⟩
/-- The rows M are the slice at A of the lists xss: the row of slices, then the lists (their room may be more than the slices tell). -/
def LsM (M : List Rg) (A : Option Addr) (c : Nat) (xss : List (List Int)) : Prop :=
  ∃ (lo hi : Nat) (cs : List Value) (R : List Rg), M = hdr lo hi A xss.length c cs :: R ∧ R.length = xss.length ∧ ∀ i, i < xss.length → ∃ E lo hi Ai ci c', (xss.getD i []).length ≤ ci ∧ cs[i]? = some (.slice Ai (xss.getD i []).length ci) ∧ R[i]? = some (rt E 1 lo hi (.slice Ai (xss.getD i []).length c') (xss.getD i []).length (xss.getD i []))
theorem GS.perm {W0 w : World} {L L' : List Rg} {Bs : List Bxg} (h : GS W0 w L Bs) (hp : L.Perm L') : GS W0 w L' Bs :=
  ⟨h.1, fun t ht => h.2.1 t (hp.mem_iff.2 ht), h.2.2.1.perm hp (fun {a b} hab => hab.symm), fun b hb => ⟨(h.2.2.2.1 b hb).1, (h.2.2.2.1 b hb).2.1, fun t ht => (h.2.2.2.1 b hb).2.2 t (hp.mem_iff.2 ht)⟩, h.2.2.2.2⟩
/-- Rows that a call made. -/
theorem GS.addM {W0 w w' : World} {L M : List Rg} {Bs : List Bxg} (h : GS W0 w L Bs) (hM : GS w w' M []) : GS W0 w' (M ++ L) Bs := by
  have h' := h.call hM.1
  refine ⟨h'.1, ?_, ?_, fun b hm => ⟨(h'.2.2.2.1 b hm).1, (h'.2.2.2.1 b hm).2.1, fun t ht => ?_⟩, h.2.2.2.2⟩
  · intro t ht
    rcases List.mem_append.1 ht with ht | ht
    · exact ⟨(hM.2.1 t ht).1, Nat.le_trans h.1.size (hM.2.1 t ht).2.1, (hM.2.1 t ht).2.2⟩
    · exact h'.2.1 t ht
  · exact List.pairwise_append.2 ⟨hM.2.2.1, h.2.2.1, fun a ha b hb => .inl (Nat.le_trans (h.2.1 b hb).2.2 (hM.2.1 a ha).2.1)⟩
  · rcases List.mem_append.1 ht with ht | ht
    · have h1 := (h.2.2.2.1 b hm).1.lt
      have h2 := (hM.2.1 t ht).2.1
      exact .inr (by omega)
    · exact (h.2.2.2.1 b hm).2.2 t ht
theorem getD_eqD {α : Type} {xs : List α} {i : Nat} {a d : α} (h : xs[i]? = some a) : xs.getD i d = a := by
  rw [List.getD_eq_getElem?_getD, h]; rfl
theorem LsM.rds {W0 w : World} {L M : List Rg} {Bs : List Bxg} {A : Option Addr} {c : Nat} {xss : List (List Int)} (h : GS W0 w L Bs) (hM : LsM M A c xss) (hs : ∀ t ∈ M, t ∈ L) : Rdss w w.heap.size A xss := by
  obtain ⟨lo, hi, cs, R, rfl, hl, hR⟩ := hM
  have ho : w.ownsRow lo 23 1 (.slice A xss.length c) xss.length cs := (h.2.1 _ (hs _ (List.Mem.head _))).1.1
  rcases ho.2 with ⟨h0, h1⟩ | ⟨g, cap, cur, hv, hbg, hg, hnc, hcm, hcs, ht⟩
  · exact .inl (List.eq_nil_of_length_eq_zero h1)
  · simp only [Value.slice.injEq] at hv
    obtain ⟨rfl, _, rfl⟩ := hv
    refine .inr ⟨g, 0, rfl, ?_, fun i hi => ?_⟩
    · rcases Nat.lt_or_ge g w.heap.size with h' | h'
      · exact h'
      · rw [Array.getElem?_eq_none h'] at hg; cases hg
    · obtain ⟨E, lo2, hi2, Ai, ci, c', hci, hcs, hr⟩ := hR i hi
      refine ⟨Ai, ci, hci, ?_, ?_⟩
      · rw [Nat.zero_add, World.ownsRow.cellAt ho i (by omega)]
        exact hcs
      · exact h.rdsT (hs _ (List.mem_cons_of_mem _ (List.mem_of_getElem? hr)))
theorem LsM.cap {W0 w : World} {L M : List Rg} {Bs : List Bxg} {A : Option Addr} {c : Nat} {xss : List (List Int)} (h : GS W0 w L Bs) (hM : LsM M A c xss) (hs : ∀ t ∈ M, t ∈ L) : xss.length ≤ c := by
  obtain ⟨lo, hi, cs, R, rfl, hl, hR⟩ := hM
  have ho : w.ownsRow lo 23 1 (.slice A xss.length c) xss.length cs := (h.2.1 _ (hs _ (List.Mem.head _))).1.1
  rcases ho.2 with ⟨h0, h1⟩ | ⟨g, cap, cur, hv, hbg, hg, hnc, hcm, hcs, ht⟩
  · omega
  · simp only [Value.slice.injEq] at hv
    obtain ⟨_, _, rfl⟩ := hv
    exact hnc
/-- Lists numbered through, from k. -/
def nums (k : Int) (xss : List (List Int)) : List (List Int) := (List.range xss.length).map fun j => marks (k + tl xss j) (xss.getD j []).length
theorem nums_len (k : Int) (xss : List (List Int)) : (nums k xss).length = xss.length := by simp [nums]
theorem nums_get (k : Int) (xss : List (List Int)) {j : Nat} (h : j < xss.length) : (nums k xss).getD j [] = marks (k + tl xss j) (xss.getD j []).length := by simp [nums, h]
/-- The first j lists are numbered. -/
def numd (k : Int) (xss : List (List Int)) (j : Nat) : List (List Int) := (List.range xss.length).map fun i => if i < j then marks (k + tl xss i) (xss.getD i []).length else xss.getD i []
theorem numd_len (k : Int) (xss : List (List Int)) (j : Nat) : (numd k xss j).length = xss.length := by simp [numd]
theorem numd_get (k : Int) (xss : List (List Int)) (j : Nat) {i : Nat} (h : i < xss.length) : (numd k xss j).getD i [] = if i < j then marks (k + tl xss i) (xss.getD i []).length else xss.getD i [] := by simp [numd, h]
theorem numd_zero (k : Int) (xss : List (List Int)) : numd k xss 0 = xss := by
  apply List.ext_getElem?
  intro i
  by_cases h : i < xss.length
  · simp [numd, h]
  · simp [numd, h]
theorem numd_all (k : Int) (xss : List (List Int)) : numd k xss xss.length = nums k xss := by
  unfold numd nums
  refine List.map_congr_left fun i hi => ?_
  rw [if_pos (List.mem_range.1 hi)]
theorem numd_old (k : Int) (xss : List (List Int)) {j : Nat} (h : j < xss.length) : (numd k xss j).getD j [] = xss.getD j [] := by
  rw [numd_get k xss j h, if_neg (Nat.lt_irrefl _)]
theorem LsM.len {M : List Rg} {A : Option Addr} {c : Nat} {xss yss : List (List Int)} (h : LsM M A c xss) (e : xss = yss) : LsM M A c yss := e ▸ h
/-- One more list is numbered. -/
theorem LsM.step {W0 w : World} {L1 L2 M : List Rg} {Bs : List Bxg} {A : Option Addr} {c : Nat} {xss : List (List Int)} {k : Int} {j : Nat} (h : GS W0 w (L1 ++ M ++ L2) Bs) (hM : LsM M A c (numd k xss j)) (hj : j < xss.length) :
    ∃ E lo Aj cj c', (xss.getD j []).length ≤ cj ∧ (∀ b off, A = some ⟨b, off, none⟩ → w.cell? ⟨b, off + j, none⟩ = some (.slice Aj (xss.getD j []).length cj)) ∧ OwnT E 1 w lo (.slice Aj (xss.getD j []).length c') (xss.getD j []).length (xss.getD j []) ∧
      ∀ w', OwnT E 1 w' lo (.slice Aj (xss.getD j []).length c') (xss.getD j []).length (marks (k + tl xss j) (xss.getD j []).length) → w.grownBy w' (Value.slice Aj (xss.getD j []).length c').ownBlock → ∃ M', LsM M' A c (numd k xss (j + 1)) ∧ GS W0 w' (L1 ++ M' ++ L2) Bs := by
  have hrd := LsM.rds h hM (fun t ht => by simp [ht])
  obtain ⟨lo, hi, cs, R, rfl, hl, hR⟩ := hM
  rw [numd_len] at hl hR
  obtain ⟨E, lo2, hi2, Aj, cj, c', hcj, hcsj, hr⟩ := hR j hj
  rw [numd_old k xss hj] at hcj hcsj hr
  have hsplit : R = R.take j ++ rt E 1 lo2 hi2 (.slice Aj (xss.getD j []).length c') (xss.getD j []).length (xss.getD j []) :: R.drop (j + 1) := by
    have hjl : j < R.length := by omega
    have e1 : R[j] = rt E 1 lo2 hi2 (.slice Aj (xss.getD j []).length c') (xss.getD j []).length (xss.getD j []) := by rw [List.getElem?_eq_getElem hjl] at hr; exact Option.some.inj hr
    rw [← e1, List.getElem_cons_drop, List.take_append_drop]
  refine ⟨E, lo2, Aj, cj, c', hcj, fun b off e => ?_, ?_, fun w' hO hG => ?_⟩
  · subst e
    rcases hrd with h0 | ⟨b2, off2, e, _, hc⟩
    · have := congrArg List.length h0; rw [numd_len, List.length_nil] at this; omega
    · injection e with e; injection e with e1 e2; subst e1; subst e2
      have ho : w.ownsRow lo 23 1 (.slice (some ⟨b, off, none⟩) (numd k xss j).length c) (numd k xss j).length cs := (h.2.1 _ (List.mem_append.2 (.inl (List.mem_append.2 (.inr (List.Mem.head _)))))).1.1
      rcases ho.2 with ⟨h0, h1⟩ | ⟨g, cap, cur, hv, hbg, hg, hnc, hcm, hcs, ht⟩
      · cases h0
      · simp only [Value.slice.injEq, Option.some.injEq, Addr.mk.injEq] at hv
        obtain ⟨⟨rfl, rfl, _⟩, _, rfl⟩ := hv
        rw [Nat.zero_add, World.ownsRow.cellAt ho j (by rw [Nat.mul_one, numd_len]; exact hj)]
        exact hcsj
  · exact h.ownT (lo := lo2) (hi := hi2) (List.mem_append.2 (.inl (List.mem_append.2 (.inr (List.mem_cons_of_mem _ (List.mem_of_getElem? hr))))))
  · refine ⟨hdr lo hi A (numd k xss (j + 1)).length c cs :: (R.take j ++ rt E 1 lo2 hi2 (.slice Aj (xss.getD j []).length c') (xss.getD j []).length (marks (k + tl xss j) (xss.getD j []).length) :: R.drop (j + 1)), ⟨lo, hi, cs, _, rfl, ?_, fun i hi => ?_⟩, ?_⟩
    · rw [numd_len]; simp; omega
    · rw [numd_len] at hi
      by_cases e : i = j
      · subst e
        rw [numd_get k xss _ hi, if_pos (Nat.lt_succ_self _)]
        refine ⟨E, lo2, hi2, Aj, cj, c', by rw [marks_len]; exact hcj, by rw [marks_len]; exact hcsj, ?_⟩
        rw [List.getElem?_append_right (by rw [List.length_take]; omega), List.length_take, Nat.min_eq_left (show i ≤ R.length by omega), Nat.sub_self, marks_len]
        rfl
      · obtain ⟨E3, lo3, hi3, A3, c3, c3', hc3, hcs3, hr3⟩ := hR i hi
        have e2 : (numd k xss (j + 1)).getD i [] = (numd k xss j).getD i [] := by
          rw [numd_get k xss _ hi, numd_get k xss _ hi]
          by_cases h1 : i < j
          · rw [if_pos h1, if_pos (by omega)]
          · rw [if_neg h1, if_neg (by omega)]
        rw [e2]
        refine ⟨E3, lo3, hi3, A3, c3, c3', hc3, hcs3, ?_⟩
        rw [← hr3]
        conv => rhs; rw [hsplit]
        simp only [List.getElem?_append, List.getElem?_cons, List.length_take]
        by_cases h1 : i < min j R.length
        · simp [h1]
        · rw [if_neg h1, if_neg h1]
          have : i - min j R.length ≠ 0 := by omega
          simp [this]
    · have h2 : GS W0 w ((L1 ++ hdr lo hi A (numd k xss j).length c cs :: R.take j) ++ rt E 1 lo2 hi2 (.slice Aj (xss.getD j []).length c') (xss.getD j []).length (xss.getD j []) :: (R.drop (j + 1) ++ L2)) Bs := by
        have e : L1 ++ hdr lo hi A (numd k xss j).length c cs :: R ++ L2 = (L1 ++ hdr lo hi A (numd k xss j).length c cs :: R.take j) ++ rt E 1 lo2 hi2 (.slice Aj (xss.getD j []).length c') (xss.getD j []).length (xss.getD j []) :: (R.drop (j + 1) ++ L2) := by
          conv => lhs; rw [show R = R.take j ++ rt E 1 lo2 hi2 (.slice Aj (xss.getD j []).length c') (xss.getD j []).length (xss.getD j []) :: R.drop (j + 1) from hsplit]
          simp only [List.append_assoc, List.cons_append]
        rw [← e]; exact h
      have h3 := h2.markT hO hG
      rw [numd_len, ← numd_len k xss j]
      simpa only [List.append_assoc, List.cons_append] using h3
/-- A row of numbers is numbered, whatever its element type and whatever room its slice tells. -/
theorem GS.rowOk {W0 w : World} {L : List Rg} {Bs : List Bxg} (h : GS W0 w L Bs) {t : Rg} (ht : t ∈ L) : t.ok w ∧ W0.heap.size ≤ t.lo ∧ t.hi ≤ w.heap.size := h.2.1 t ht
end Go.Proofs.Ytfeldhhbnhdodaa
