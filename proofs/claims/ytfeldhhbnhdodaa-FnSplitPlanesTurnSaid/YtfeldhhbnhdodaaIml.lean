/- Lists of images: how a slice of images reads, the rows that a call makes for one. -/
import Derived.Test.YtfeldhhbnhdodaaLsl
namespace Go.Proofs.Ytfeldhhbnhdodaa
open Go.RowKit
set_option linter.unusedSimpArgs false
set_option linter.unusedVariables false

/-- An image's fields. -/
structure Imv where
  X : Int
  Y : Int
  Z : Int
  ds : List Int
instance : Inhabited Imv := ⟨⟨0, 0, 0, []⟩⟩
/-- The i-th image. -/
def imv (ms : List Imv) (i : Nat) : Imv := ms.getD i default
/-- The slice at A reads as the images ms, below block B. -/
def Rdim (w : World) (B : Nat) (A : Option Addr) (ms : List Imv) : Prop :=
  ms = [] ∨ ∃ b off, A = some ⟨b, off, none⟩ ∧ b < B ∧ ∀ i, i < ms.length → ∃ (Ai : Option Addr) (ci : Nat), (imv ms i).ds.length ≤ ci ∧
    w.cell? ⟨b, off + i * 4, none⟩ = some (.int .i64 (imv ms i).X) ∧ w.cell? ⟨b, off + i * 4 + 1, none⟩ = some (.int .i64 (imv ms i).Y) ∧ w.cell? ⟨b, off + i * 4 + 2, none⟩ = some (.int .i64 (imv ms i).Z) ∧
    w.cell? ⟨b, off + i * 4 + 3, none⟩ = some (.slice Ai (imv ms i).ds.length ci) ∧ Rds .i64 w B Ai (imv ms i).ds
section
variable {w w' : World} {B B' : Nat} {A : Option Addr} {ms : List Imv}
theorem Rdim.keep (h : Rdim w B A ms) (hk : ∀ p : Addr, p.block < B → w'.cell? p = w.cell? p) : Rdim w' B A ms := by
  rcases h with h | ⟨b, off, rfl, hb, hc⟩
  · exact .inl h
  · refine .inr ⟨b, off, rfl, hb, fun i hi => ?_⟩
    obtain ⟨Ai, ci, h1, x, y, z, h2, h3⟩ := hc i hi
    exact ⟨Ai, ci, h1, (hk _ hb).trans x, (hk _ hb).trans y, (hk _ hb).trans z, (hk _ hb).trans h2, h3.keep hk⟩
theorem Rdim.more (h : Rdim w B A ms) (hB : B ≤ B') : Rdim w B' A ms := by
  rcases h with h | ⟨b, off, rfl, hb, hc⟩
  · exact .inl h
  · refine .inr ⟨b, off, rfl, by omega, fun i hi => ?_⟩
    obtain ⟨Ai, ci, h1, x, y, z, h2, h3⟩ := hc i hi
    exact ⟨Ai, ci, h1, x, y, z, h2, h3.more hB⟩
theorem Rdim.below (h : Rdim w B A ms) (hb : Below B w w') : Rdim w' B A ms := h.keep fun _ hp => hb.cell hp
theorem Rdim.at (h : Rdim w B A ms) {i : Nat} (hi : i < ms.length) : ∃ b off Ai ci, A = some ⟨b, off, none⟩ ∧ b < B ∧ (imv ms i).ds.length ≤ ci ∧
    w.cell? ⟨b, off + i * 4, none⟩ = some (.int .i64 (imv ms i).X) ∧ w.cell? ⟨b, off + i * 4 + 1, none⟩ = some (.int .i64 (imv ms i).Y) ∧ w.cell? ⟨b, off + i * 4 + 2, none⟩ = some (.int .i64 (imv ms i).Z) ∧
    w.cell? ⟨b, off + i * 4 + 3, none⟩ = some (.slice Ai (imv ms i).ds.length ci) ∧ Rds .i64 w B Ai (imv ms i).ds := by
  rcases h with h | ⟨b, off, rfl, hb, hc⟩
  · subst h; simp at hi
  · obtain ⟨Ai, ci, h⟩ := hc i hi
    exact ⟨b, off, Ai, ci, rfl, hb, h⟩
end
def hdrI (lo hi : Nat) (A : Option Addr) (n c : Nat) (cs : List Value) : Rg := ⟨lo, hi, 25, 4, .slice A n c, n, cs⟩
/-- The rows M are the slice at A of the images ms: the row of structs, then the numbers of each. -/
def ImM (M : List Rg) (A : Option Addr) (c : Nat) (ms : List Imv) : Prop :=
  ∃ (lo hi : Nat) (cs : List Value) (R : List Rg), M = hdrI lo hi A ms.length c cs :: R ∧ R.length = ms.length ∧ cs.length = ms.length * 4 ∧ ∀ i, i < ms.length → ∃ E lo hi Ai ci c', (imv ms i).ds.length ≤ ci ∧
    cs[i * 4]? = some (.int .i64 (imv ms i).X) ∧ cs[i * 4 + 1]? = some (.int .i64 (imv ms i).Y) ∧ cs[i * 4 + 2]? = some (.int .i64 (imv ms i).Z) ∧
    cs[i * 4 + 3]? = some (.slice Ai (imv ms i).ds.length ci) ∧ R[i]? = some (rt E 1 lo hi (.slice Ai (imv ms i).ds.length c') (imv ms i).ds.length (imv ms i).ds)
theorem cell_own4 {w : World} {base g n c : Nat} {E : TypeId} {cs : List Value} (h : w.ownsRow base E 4 (.slice (some ⟨g, 0, none⟩) n c) n cs) {j : Nat} (hj : j < n * 4) : w.cell? ⟨g, j, none⟩ = cs[j]? := World.ownsRow.cellAt h j hj
theorem ImM.rds {W0 w : World} {L M : List Rg} {Bs : List Bxg} {A : Option Addr} {c : Nat} {ms : List Imv} (h : GS W0 w L Bs) (hM : ImM M A c ms) (hs : ∀ t ∈ M, t ∈ L) : Rdim w w.heap.size A ms := by
  obtain ⟨lo, hi, cs, R, rfl, hl, hcl, hR⟩ := hM
  have ho : w.ownsRow lo 25 4 (.slice A ms.length c) ms.length cs := (h.2.1 _ (hs _ (List.Mem.head _))).1.1
  rcases ho.2 with ⟨h0, h1⟩ | ⟨g, cap, cur, hv, hbg, hg, hnc, hcm, hcs, ht⟩
  · exact .inl (List.eq_nil_of_length_eq_zero h1)
  · simp only [Value.slice.injEq] at hv
    obtain ⟨rfl, _, rfl⟩ := hv
    refine .inr ⟨g, 0, rfl, ?_, fun i hi => ?_⟩
    · rcases Nat.lt_or_ge g w.heap.size with h' | h'
      · exact h'
      · rw [Array.getElem?_eq_none h'] at hg; cases hg
    · obtain ⟨E, lo2, hi2, Ai, ci, c', hci, x, y, z, hcs, hr⟩ := hR i hi
      refine ⟨Ai, ci, hci, ?_, ?_, ?_, ?_, h.rdsT (hs _ (List.mem_cons_of_mem _ (List.mem_of_getElem? hr)))⟩
      · rw [Nat.zero_add, cell_own4 ho (by omega)]; exact x
      · rw [Nat.zero_add, cell_own4 ho (by omega)]; exact y
      · rw [Nat.zero_add, cell_own4 ho (by omega)]; exact z
      · rw [Nat.zero_add, cell_own4 ho (by omega)]; exact hcs
/-- Images numbered through, from k: three fields and the numbers of each. -/
def ofI (ms : List Imv) (j : Nat) : Nat := j * 3 + tl (ms.map (·.ds)) j
theorem ofI_zero (ms : List Imv) : ofI ms 0 = 0 := by unfold ofI; rw [tl_zero]
theorem ofI_succ {ms : List Imv} {j : Nat} (h : j < ms.length) : ofI ms (j + 1) = ofI ms j + 3 + (imv ms j).ds.length := by
  unfold ofI
  rw [tl_succ (by simpa using h)]
  have e : (ms.map (·.ds)).getD j [] = (imv ms j).ds := by
    unfold imv
    simp [List.getD_eq_getElem?_getD, h]
  rw [e]
  omega
theorem ofI_mono {ms : List Imv} {j n : Nat} (h : j ≤ n) (hn : n ≤ ms.length) : ofI ms j ≤ ofI ms n := by
  have := tl_mono (xss := ms.map (·.ds)) h (by simpa using hn)
  unfold ofI
  omega
def numI (k : Int) (ms : List Imv) : List Imv := (List.range ms.length).map fun j => ⟨k + ofI ms j, k + ofI ms j + 1, k + ofI ms j + 2, marks (k + ofI ms j + 3) (imv ms j).ds.length⟩
theorem numI_len (k : Int) (ms : List Imv) : (numI k ms).length = ms.length := by simp [numI]
theorem numI_get (k : Int) (ms : List Imv) {j : Nat} (h : j < ms.length) : imv (numI k ms) j = ⟨k + ofI ms j, k + ofI ms j + 1, k + ofI ms j + 2, marks (k + ofI ms j + 3) (imv ms j).ds.length⟩ := by
  show (numI k ms).getD j default = _
  simp [numI, List.getD_eq_getElem?_getD, h]
end Go.Proofs.Ytfeldhhbnhdodaa
