/- The laws' functions on lists of lists: sizes, copies, comparing, marking, holding. -/
import Derived.Test.YtkjebidkkopalaaLsl
import Derived.Test.YtkjebidkkopalaaSz
import Derived.StillTailTactics
import Derived.Deep.QuietTactic
import Derived.BigQuiet
namespace Go.Proofs.Ytkjebidkkopalaa
open Go.RowKit
set_option linter.unusedSimpArgs false
set_option linter.unusedVariables false
set_option maxRecDepth 20000

set_option maxHeartbeats 2000000 in
theorem szIntSS_le (A : Option Addr) (c : Nat) (xss : List (List Int)) (left : Int) (w : World) (hr : Rdss w w.heap.size A xss) (h0 : 0 ≤ left) (h1 : left ≤ 1048576) (h : (tot xss : Int) ≤ left) :
    Calls Try.prog 34 #[.slice A xss.length c, .int .i64 left] w fun e w' => e = .returned (.int .i64 (left - (tot xss : Nat))) ∧ Below w.heap.size w w' := by
  have Hr := Lib.hid hr
  have Ht : Hid (tot xss = xss.length + tl xss xss.length) := Lib.hid rfl
  obtain ⟨n, hn⟩ : ∃ n, n = xss.length := ⟨_, rfl⟩
  have Hn := Lib.hid hn
  have hnl : (n : Int) ≤ left := by have := Ht.out; omega
  rw [← hn]
  clear hr hn
  go_enter Try.func34, Try.ntmps34
  go_wp2
  go_loopw [1, 5] (fun l i wr => ∃ (k : Nat) (q : Int), k ≤ n ∧ i = .int .i64 k ∧ l = .int .i64 q ∧ Hid (q = left - n - (tl xss k : Nat)) ∧ Below w.heap.size w wr) (fun _ i _ => n - (intOf i).toNat)
  case atStart => exact ⟨0, left - n, Nat.zero_le _, rfl, rfl, Lib.hid (by rw [tl_zero]; simp), Below.refl _ _⟩
  case round =>
    obtain ⟨k, q, hk, rfl, rfl, HQ, hbel⟩ := hrel
    by_cases hlt : k < n
    · have hkl : k < xss.length := by have := Hn.out; omega
      obtain ⟨b, off, Ai, ci, rfl, hb, hci, hc0, _⟩ := Hr.out.at hkl
      have hc := (hbel.cell (p := ⟨b, off + k, none⟩) hb).trans hc0
      have hs := tl_succ hkl
      have hm := tl_mono (xss := xss) (k := k + 1) (n := xss.length) (by omega) (Nat.le_refl _)
      have hq := HQ.out
      have ht := Ht.out
      have hn := Hn.out
      generalize (xss.getD k []).length = m at *
      have hq0 : 0 ≤ q ∧ q ≤ 1048576 ∧ (m : Int) ≤ q := by omega
      have HN : Hid (q - m = left - n - (tl xss (k + 1) : Nat)) := Lib.hid (by omega)
      have hkn : k ≤ 1048576 := by omega
      clear hc0 hs hm hq ht hn h hnl
      go_wp2_with fail
      refine (szIntS_le Ai ci m q _ hq0.1 hq0.2.1 hq0.2.2).mono ?_
      rintro e w2 ⟨rfl, hB2⟩
      have hbd := hbel.trans (hB2.mono hbel.size)
      have hq2 : ¬ q - m < 0 := by omega
      clear hbel hB2
      go_wp2
      go_roundw
      case rel => exact ⟨k + 1, q - m, by omega, by go_num, rfl, HN, hbd⟩
      case measure => simp [intOf]; omega
    · have hk' : k = n := by omega
      have HE : Hid (q = left - (tot xss : Nat)) := Lib.hid (by have h1 := HQ.out; have h2 := Ht.out; have h3 := Hn.out; have h4 : tl xss k = tl xss xss.length := by { rw [hk', h3] }; omega)
      clear h hnl
      go_wp2
      go_ret
      exact ⟨by rw [← HE.out]; rfl, hbel⟩
set_option maxHeartbeats 2000000 in
theorem szIntSS_gt (A : Option Addr) (c : Nat) (xss : List (List Int)) (left : Int) (w : World) (hr : Rdss w w.heap.size A xss) (h0 : 0 ≤ left) (h1 : left ≤ 1048576) (h : left < (tot xss : Nat)) (hm : xss.length ≤ 9223372036854775807) (hmm : ∀ i, i < xss.length → (xss.getD i []).length ≤ 9223372036854775807) :
    Calls Try.prog 34 #[.slice A xss.length c, .int .i64 left] w fun e w' => e = .returned (.int .i64 (-1)) ∧ Below w.heap.size w w' := by
  have Hr := Lib.hid hr
  have Hmm := Lib.hid hmm
  have Ht : Hid (left < ((xss.length + tl xss xss.length : Nat) : Int)) := Lib.hid h
  obtain ⟨n, hn⟩ : ∃ n, n = xss.length := ⟨_, rfl⟩
  have Hn := Lib.hid hn
  rw [← hn] at hm ⊢
  clear hr hn hmm h
  by_cases hnl : left < (n : Int)
  · go_enter Try.func34, Try.ntmps34
    go_wp2_with go_in
    go_ret
    exact ⟨rfl, Below.refl _ _⟩
  go_enter Try.func34, Try.ntmps34
  go_wp2
  go_loopw [1, 5] (fun l i wr => ∃ (k : Nat) (q : Int), k ≤ n ∧ i = .int .i64 k ∧ l = .int .i64 q ∧ Hid (q = left - n - (tl xss k : Nat)) ∧ Hid (0 ≤ q) ∧ Below w.heap.size w wr) (fun _ i _ => n - (intOf i).toNat)
  case atStart => exact ⟨0, left - n, Nat.zero_le _, rfl, rfl, Lib.hid (by rw [tl_zero]; simp), Lib.hid (by omega), Below.refl _ _⟩
  case round =>
    obtain ⟨k, q, hk, rfl, rfl, HQ, HP, hbel⟩ := hrel
    by_cases hlt : k < n
    · have hkl : k < xss.length := by have := Hn.out; omega
      obtain ⟨b, off, Ai, ci, rfl, hb, hci, hc0, _⟩ := Hr.out.at hkl
      have hc := (hbel.cell (p := ⟨b, off + k, none⟩) hb).trans hc0
      have hs := tl_succ hkl
      have hq := HQ.out
      have hp := HP.out
      have hml := Hmm.out k hkl
      generalize (xss.getD k []).length = m at *
      have hq0 : 0 ≤ q ∧ q ≤ 1048576 := by omega
      have hkn : k ≤ 1048576 := by omega
      by_cases hmq : (m : Int) ≤ q
      · have HN : Hid (q - m = left - n - (tl xss (k + 1) : Nat)) := Lib.hid (by omega)
        clear hc0 hs hq hp hnl
        go_wp2_with fail
        refine (szIntS_le Ai ci m q _ hq0.1 hq0.2 hmq).mono ?_
        rintro e w2 ⟨rfl, hB2⟩
        have hbd := hbel.trans (hB2.mono hbel.size)
        have hq2 : ¬ q - m < 0 := by omega
        clear hbel hB2
        go_wp2
        go_roundw
        case rel => exact ⟨k + 1, q - m, by omega, by go_num, rfl, HN, Lib.hid (by omega), hbd⟩
        case measure => simp [intOf]; omega
      · have hmq' : q < (m : Int) := by omega
        clear hc0 hs hq hp hnl
        go_wp2_with fail
        refine (szIntS_gt Ai ci m q _ hq0.1 hq0.2 hmq' hml).mono ?_
        rintro e w2 ⟨rfl, hB2⟩
        have hbd := hbel.trans (hB2.mono hbel.size)
        clear hbel hB2
        go_wp2
        go_ret
        exact ⟨rfl, hbd⟩
    · have hk' : k = n := by omega
      have hf : False := by have h1 := HQ.out; have h2 := HP.out; have h3 := Ht.out; have h4 := Hn.out; subst hk'; subst h4; omega
      exact hf.elim
set_option maxHeartbeats 2000000 in
theorem eqIntSS_same (A A' : Option Addr) (c c' n n' : Nat) (xss : List (List Int)) (w : World) (hn : n = xss.length) (hn' : n' = xss.length) (hx : Rdss w w.heap.size A xss) (hy : Rdss w w.heap.size A' xss) (hl : tot xss ≤ 2000000) :
    Calls Try.prog 29 #[.slice A n c, .slice A' n' c'] w fun e w' => e = .returned (.bool true) ∧ Below w.heap.size w w' := by
  have HX := Lib.hid hx
  have HY := Lib.hid hy
  have HL : Hid (∀ i, i < xss.length → (xss.getD i []).length ≤ 2000000) := Lib.hid fun i hi => Nat.le_trans (len_le_tot hi) hl
  subst hn
  subst hn'
  have hnl : xss.length ≤ 2000000 := by unfold tot at hl; omega
  obtain ⟨n, hn⟩ : ∃ n, n = xss.length := ⟨_, rfl⟩
  have Hn := Lib.hid hn
  rw [← hn] at hnl ⊢
  clear hx hy hl hn
  go_enter Try.func29, Try.ntmps29
  go_wp2
  go_loopw [5] (fun i wr => ∃ k : Nat, k ≤ n ∧ i = .int .i64 k ∧ Below w.heap.size w wr) (fun i _ => n - (intOf i).toNat)
  case atStart => exact ⟨0, Nat.zero_le _, rfl, Below.refl _ _⟩
  case round =>
    obtain ⟨k, hk, rfl, hbel⟩ := hrel
    by_cases hlt : k < n
    · have hkl : k < xss.length := by have := Hn.out; omega
      obtain ⟨b, off, Ai, ci, rfl, hb, hci, hc0, hr0⟩ := HX.out.at hkl
      obtain ⟨b', off', Bi, di, rfl, hb', hdi, hd0, hs0⟩ := HY.out.at hkl
      have hc := (hbel.cell (p := ⟨b, off + k, none⟩) hb).trans hc0
      have hd := (hbel.cell (p := ⟨b', off' + k, none⟩) hb').trans hd0
      have HR := Lib.hid (hr0.below hbel)
      have HS := Lib.hid (hs0.below hbel)
      have hml := HL.out k hkl
      clear hc0 hd0 hr0 hs0
      generalize xss.getD k [] = xs at *
      have hbd := hbel.drew
      have HR2 : Hid (Rds .i64 wr.drew w.heap.size Ai xs) := Lib.hid (HR.out.keep fun _ _ => rfl)
      have HS2 : Hid (Rds .i64 wr.drew w.heap.size Bi xs) := Lib.hid (HS.out.keep fun _ _ => rfl)
      clear hbel
      go_wp2_with fail
      go_still_tail 8, (by kernel_rfl)
      change wpList _ _ _ _ _ wr.drew
      generalize wr.drew = w2 at *
      go_wp2_with fail
      refine (eqIntS_any Ai Bi ci di xs xs _ _ w2 HR2.out HS2.out (by omega) (by omega)).mono ?_
      rintro e w3 ⟨rfl, m, rfl⟩
      have hb3 : Below w.heap.size w (w2.drewN m) := ⟨hbd.os, hbd.tape, hbd.output, hbd.size, hbd.block⟩
      clear hbd
      simp only [decide_true]
      go_wp2
      go_roundw
      case rel => exact ⟨k + 1, by omega, by go_num, hb3⟩
      case measure => simp [intOf]; omega
    · go_wp2
      go_ret
      exact ⟨rfl, hbel⟩
theorem info_lists : (Try.prog.info? 23).map (fun i => (i.zero, i.size, i.bytes)) = some (some (.slice none 0 0), 1, 24) := by kernel_rfl
def nils (n : Nat) : List Value := List.replicate n (.slice none 0 0)
theorem make_lists (n : Nat) (hn : n ≤ 10000000) (W : World) : (Instr.makeSlice 27 (.int .i64 (n : Int)) (.int .i64 (n : Int))).run Try.prog W = .ok (.slice (some ⟨W.heap.size, 0, none⟩) n n) (W.alloc (.cells (nils n).toArray 23)) := by
  obtain ⟨i, hi, hz, hs, hb⟩ := info_parts info_lists
  have h := run_make (P := Try.prog) W 27 23 i _ Try.underlying27 hi hz .i64 .i64 n n (by omega) (Int.le_refl _) (by rw [hb]; omega) (by omega)
  simp only [Int.toNat_natCast, hs, Nat.mul_one] at h
  rw [h]
  have e : madeCells (Value.slice none 0 0).cells n = (nils n).toArray := by
    apply Array.toList_inj.1
    rw [show (Value.slice none 0 0).cells = #[Value.slice none 0 0] from rfl, toList_madeCells_one]
    simp [nils]
  rw [e]
theorem nils_set (R : List Rg) (n : Nat) (t : Rg) (h : R.length < n) : (R.map (·.v) ++ nils (n - R.length)).set R.length t.v = (R ++ [t]).map (·.v) ++ nils (n - (R.length + 1)) := by
  obtain ⟨m, hm⟩ : ∃ m, n - R.length = m + 1 := ⟨n - R.length - 1, by omega⟩
  rw [hm, show n - (R.length + 1) = m by omega]
  rw [List.set_append_right _ _ (by simp)]
  simp [nils, List.replicate_succ]
theorem GS.newM (w : World) (n : Nat) (hn : n ≤ 2000000) : GS w (w.alloc (.cells (nils n).toArray 23)) [hdr w.heap.size (w.heap.size + 1) (some ⟨w.heap.size, 0, none⟩) n n (nils n)] [] := by
  have hO : (w.alloc (.cells (nils n).toArray 23)).ownsRow w.heap.size 23 1 (.slice (some ⟨w.heap.size, 0, none⟩) n n) n (nils n) :=
    ⟨by simp [nils], .inr ⟨w.heap.size, n, _, rfl, Nat.le_refl _, heap_alloc_new w _, Nat.le_refl _, by unfold maxLen; omega, by simp [nils], by rw [Nat.mul_one, show (nils n).toArray.toList = nils n from rfl, List.take_of_length_le (by simp [nils])]⟩⟩
  have h := (GS.start w).addR hO ((Below.refl _ _).alloc (Nat.le_refl _) _)
  have e : (w.alloc (.cells (nils n).toArray 23)).heap.size = w.heap.size + 1 := Array.size_push _
  rw [e] at h
  exact h
theorem GS.putM {W0 w2 : World} {g n k : Nat} {R : List Rg} {t : Rg} (S1 : GS W0 w2 (t :: hdr g (g + 1) (some ⟨g, 0, none⟩) n n (R.map (·.v) ++ nils (n - k)) :: R) []) (hk : R.length = k) (h : k < n) :
    GS W0 (w2.setCell ⟨g, k, none⟩ t.v) (hdr g (g + 1) (some ⟨g, 0, none⟩) n n ((R ++ [t]).map (·.v) ++ nils (n - (k + 1))) :: (R ++ [t])) [] := by
  subst hk
  have hown : w2.ownsRow g 23 1 (.slice (some ⟨g, 0, none⟩) n n) n (R.map (·.v) ++ nils (n - R.length)) := (S1.2.1 _ (List.mem_cons_of_mem _ (List.Mem.head _))).1.1
  have hst := World.ownsRow.stored hown R.length t.v
  rw [nils_set R n t h] at hst
  have S2 : GS W0 w2 ([t] ++ hdr g (g + 1) (some ⟨g, 0, none⟩) n n (R.map (·.v) ++ nils (n - R.length)) :: R) [] := S1
  have h2 := GS.markR S2 hst.1 hst.2
  refine GS.perm (L := t :: hdr g (g + 1) (some ⟨g, 0, none⟩) n n ((R ++ [t]).map (·.v) ++ nils (n - (R.length + 1))) :: R) h2 ?_
  refine List.Perm.trans (List.Perm.swap _ _ _) (List.Perm.cons _ ?_)
  exact (List.perm_append_singleton _ _).symm
/-- A call made a slice of the lists xss. -/
def MadeM (xss : List (List Int)) (w : World) (e : Ending) (w' : World) : Prop := ∃ M A c, e = .returned (.slice A xss.length c) ∧ xss.length ≤ c ∧ LsM M A c xss ∧ GS w w' M []
/-- The rows of the first k lists. -/
def RowsTo (R : List Rg) (xss : List (List Int)) (k : Nat) : Prop := R.length = k ∧ ∀ i, i < k → ∃ lo hi Ai ci, (xss.getD i []).length ≤ ci ∧ R[i]? = some (ri lo hi (.slice Ai (xss.getD i []).length ci) (xss.getD i []))
theorem RowsTo.lsm {R : List Rg} {xss : List (List Int)} (h : RowsTo R xss xss.length) (lo hi : Nat) (A : Option Addr) (c : Nat) : LsM (hdr lo hi A xss.length c (R.map (·.v)) :: R) A c xss :=
  ⟨lo, hi, _, R, rfl, h.1, fun i hi => by
    obtain ⟨lo2, hi2, Ai, ci, h1, h2⟩ := h.2 i hi
    exact ⟨_, lo2, hi2, Ai, ci, ci, h1, by rw [List.getElem?_map, h2]; rfl, h2⟩⟩
theorem RowsTo.add {R : List Rg} {xss : List (List Int)} {k : Nat} (h : RowsTo R xss k) {lo hi c : Nat} {A : Option Addr} {xs : List Int} (e : xss.getD k [] = xs) (hc : xs.length ≤ c) : RowsTo (R ++ [ri lo hi (.slice A xs.length c) xs]) xss (k + 1) := by
  refine ⟨by simp [h.1], fun i hi2 => ?_⟩
  by_cases e2 : i = k
  · subst e2
    rw [e]
    refine ⟨lo, hi, A, c, hc, ?_⟩
    rw [List.getElem?_append_right (by rw [h.1]; exact Nat.le_refl _), h.1, Nat.sub_self]; rfl
  · obtain ⟨lo2, hi3, A2, c2, h1, h2⟩ := h.2 i (by omega)
    refine ⟨lo2, hi3, A2, c2, h1, ?_⟩
    rw [List.getElem?_append_left (by rw [h.1]; omega)]; exact h2
set_option maxHeartbeats 4000000 in
theorem toIntSS_any (A : Option Addr) (c : Nat) (xss : List (List Int)) (w : World) (h : Rdss w w.heap.size A xss) (hl : tot xss ≤ 2000000) :
    Calls Try.prog 35 #[.slice A xss.length c] w (MadeM xss w) := by
  have Hh := Lib.hid h
  have HL : Hid (∀ i, i < xss.length → (xss.getD i []).length ≤ 2000000) := Lib.hid fun i hi => Nat.le_trans (len_le_tot hi) hl
  obtain ⟨n, hn⟩ : ∃ n, n = xss.length := ⟨_, rfl⟩
  have Hn := Lib.hid hn
  have hnl : n ≤ 2000000 := by rw [hn]; unfold tot at hl; omega
  have H0 := Lib.hid (GS.newM w n hnl)
  have hmk := fun W => make_lists n (by omega) W
  show Calls Try.prog 35 #[.slice A xss.length c] w (fun e w' => MadeM xss w e w')
  rw [← hn]
  clear h hn hl
  go_enter Try.func35, Try.ntmps35
  go_wp2
  go_loopw [4] (fun i wr => ∃ (k : Nat) (R : List Rg), k ≤ n ∧ i = .int .i64 k ∧ Hid (RowsTo R xss k) ∧ Hid (GS w wr (hdr w.heap.size (w.heap.size + 1) (some ⟨w.heap.size, 0, none⟩) n n (R.map (·.v) ++ nils (n - k)) :: R) [])) (fun i _ => n - (intOf i).toNat)
  case atStart => exact ⟨0, [], Nat.zero_le _, rfl, Lib.hid ⟨rfl, fun i hi => by omega⟩, Lib.hid (by simpa using H0.out)⟩
  case round =>
    obtain ⟨k, R, hk, rfl, HR, HG⟩ := hrel
    by_cases hlt : k < n
    · have hkl : k < xss.length := by have := Hn.out; omega
      obtain ⟨b, off, Ai, ci, rfl, hb, hci, hc0, hr0⟩ := Hh.out.at hkl
      have hbel := HG.out.below
      have hc := (hbel.cell (p := ⟨b, off + k, none⟩) hb).trans hc0
      have HR1 := Lib.hid ((hr0.below hbel).more hbel.size)
      have hml := HL.out k hkl
      obtain ⟨xs, hxs⟩ : ∃ xs, xss.getD k [] = xs := ⟨_, rfl⟩
      have HE := Lib.hid hxs
      rw [hxs] at hc HR1 hml hci
      clear hc0 hr0 hbel hxs
      go_wp2_with fail
      refine (toIntS_any Ai ci (xs) _ HR1.out (by omega)).mono ?_
      rintro e w2 ⟨v, rfl, hO, hB⟩
      obtain ⟨A2, c2, rfl, hc2⟩ := hO.slice
      have S1 := HG.out.add hO hB
      have hown : w2.ownsRow w.heap.size 23 1 (.slice (some ⟨w.heap.size, 0, none⟩) n n) n (R.map (·.v) ++ nils (n - k)) := (S1.2.1 _ (List.mem_cons_of_mem _ (List.Mem.head _))).1.1
      have hRl := HR.out.1
      have hcw : ∃ y, w2.cell? ⟨w.heap.size, k, none⟩ = some y := by
        rw [World.ownsRow.cellAt hown k (by omega)]
        exact ⟨_, List.getElem?_eq_getElem (by simp [nils, hRl]; omega)⟩
      have hfw := World.ownsRow.frozenAt hown k
      obtain ⟨y, hcw⟩ := hcw
      have HN := Lib.hid (GS.putM (t := ri wr.heap.size w2.heap.size (.slice A2 xs.length c2) (xs)) S1 hRl hlt)
      have HR3 := Lib.hid (HR.out.add (lo := wr.heap.size) (hi := w2.heap.size) (A := A2) HE.out hc2)
      clear S1 hown hO hB hRl HE
      go_wp2
      go_roundw
      case rel => exact ⟨k + 1, _, by omega, by go_num, HR3, HN⟩
      case measure => simp [intOf]; omega
    · have hk' : k = n := by omega
      go_wp2
      go_ret
      have hG := HG.out
      have hR := HR.out
      have hnx := Hn.out
      subst hk'
      rw [Nat.sub_self] at hG
      simp only [nils, List.replicate_zero, List.append_nil] at hG
      subst hnx
      exact ⟨_, _, _, rfl, Nat.le_refl _, RowsTo.lsm hR w.heap.size (w.heap.size + 1) (some ⟨w.heap.size, 0, none⟩) xss.length, hG⟩
set_option maxHeartbeats 1000000 in
theorem markRow_any (E : TypeId) (A : Option Addr) (c c' n base : Nat) (xs : List Int) (k : Int) (w : World) (hn : n = xs.length) (h : OwnT E 1 w base (.slice A n c') n xs) (hl : n ≤ 10000000) (hk0 : 0 ≤ k) (hk1 : k ≤ 100000000) :
    Calls Try.prog 73 #[.slice A n c, .int .i64 k] w fun e w' => e = .returned (.int .i64 (k + n)) ∧ OwnT E 1 w' base (.slice A n c') n (marks k n) ∧ w.grownBy w' (Value.slice A n c').ownBlock ∧ w'.heap.size = w.heap.size := by
  subst hn
  by_cases h0 : xs.length = 0
  · obtain rfl : xs = [] := List.eq_nil_of_length_eq_zero h0
    have Hh := Lib.hid h
    clear h h0
    go_enter Try.func73, Try.ntmps73
    go_wp2
    go_loop [1, 5] (fun kk i => kk = .int .i64 k ∧ i = .int .i64 0) (fun _ _ => 0)
    case atStart => exact ⟨rfl, rfl⟩
    case round =>
      obtain ⟨rfl, rfl⟩ := hrel
      go_wp2
      go_ret
      exact ⟨by simp, by simpa [marks] using Hh.out, World.grownBy.refl _ _, rfl⟩
  · obtain ⟨g, cap, hv, hbg, hgl⟩ := h.form (by omega)
    simp only [Value.slice.injEq] at hv
    obtain ⟨rfl, _, rfl⟩ := hv
    have Hh := Lib.hid h
    clear h
    show Calls Try.prog 73 #[.slice (some ⟨g, 0, none⟩) xs.length c, .int .i64 k] w fun e w' => e = .returned (.int .i64 (k + xs.length)) ∧ OwnT E 1 w' base (.slice (some ⟨g, 0, none⟩) xs.length c') xs.length (marks k xs.length) ∧ w.grownBy w' (some g) ∧ w'.heap.size = w.heap.size
    go_enter Try.func73, Try.ntmps73
    go_wp2
    go_loopw [1, 5] (fun kk i wr => ∃ j : Nat, j ≤ xs.length ∧ i = .int .i64 j ∧ kk = .int .i64 (k + j) ∧ OwnT E 1 wr base (.slice (some ⟨g, 0, none⟩) xs.length c') xs.length (marks k j ++ xs.drop j) ∧ w.grownBy wr (some g) ∧ Hid (wr.heap.size = w.heap.size)) (fun _ i _ => xs.length - (intOf i).toNat)
    case atStart => exact ⟨0, Nat.zero_le _, rfl, by simp, by simpa [marks] using Hh.out, World.grownBy.refl _ _, Lib.hid rfl⟩
    case round =>
      obtain ⟨j, hj, rfl, rfl, hO, hG, hS⟩ := hrel
      have hlen : (marks k j ++ xs.drop j).length = xs.length := by simp [marks]; omega
      by_cases hlt : j < xs.length
      · have hcw := hO.cell (j := j) (by omega)
        have hfw := hO.frozen j
        have hp := hO.put j (k + j)
        rw [marks_set k j xs hlt] at hp
        have HP := Lib.hid hp
        clear hp hO hlen
        generalize (List.getD (marks k j ++ xs.drop j) j 0) = y at *
        go_wp2
        go_roundw
        case rel => exact ⟨j + 1, by omega, by go_num, by go_num, HP.out.1, gtrans hG HP.out.2, Lib.hid (by simpa [World.setCell] using hS.out)⟩
        case measure => simp [intOf]; omega
      · have hj' : j = xs.length := by omega
        have HO := Lib.hid hO
        clear hO hlen
        go_wp2
        go_ret
        subst hj'
        exact ⟨rfl, by simpa using HO.out, hG, hS.out⟩
set_option maxHeartbeats 4000000 in
theorem markIntSS_any {W0 : World} {L1 L2 M : List Rg} {Bs : List Bxg} (A : Option Addr) (c n : Nat) (xss : List (List Int)) (hn : n = xss.length) (k : Int) (w : World) (h : GS W0 w (L1 ++ M ++ L2) Bs) (hM : LsM M A c xss) (hl : tot xss ≤ 2000000) (hk0 : 0 ≤ k) (hk1 : k ≤ 50000000) :
    Calls Try.prog 32 #[.slice A n c, .int .i64 k] w fun e w' => e = .returned (.int .i64 (k + (tl xss xss.length : Nat))) ∧ ∃ M', LsM M' A c (nums k xss) ∧ GS W0 w' (L1 ++ M' ++ L2) Bs := by
  have HG0 := Lib.hid h
  have HM0 := Lib.hid hM
  have Hn := Lib.hid hn
  have HL : Hid (∀ i, i < xss.length → (xss.getD i []).length ≤ 2000000 ∧ tl xss i ≤ 2000000) := Lib.hid fun i hi => ⟨Nat.le_trans (len_le_tot hi) hl, by have := tl_mono (xss := xss) (k := i) (n := xss.length) (by omega) (Nat.le_refl _); unfold tot at hl; omega⟩
  have hnl : n ≤ 2000000 := by rw [hn]; unfold tot at hl; omega
  clear h hM hn hl
  go_enter Try.func32, Try.ntmps32
  go_wp2
  go_loopw [1, 5] (fun q i wr => ∃ (j : Nat) (M' : List Rg), j ≤ n ∧ i = .int .i64 j ∧ q = .int .i64 (k + (tl xss j : Nat)) ∧ Hid (LsM M' A c (numd k xss j)) ∧ Hid (GS W0 wr (L1 ++ M' ++ L2) Bs)) (fun _ i _ => n - (intOf i).toNat)
  case atStart => exact ⟨0, M, Nat.zero_le _, rfl, by rw [tl_zero]; simp, Lib.hid (by rw [numd_zero]; exact HM0.out), HG0⟩
  case round =>
    obtain ⟨j, M', hj, rfl, rfl, HM, HG⟩ := hrel
    by_cases hlt : j < n
    · have hjl : j < xss.length := by have := Hn.out; omega
      have hrd := LsM.rds HG.out HM.out (fun t ht => by simp [ht])
      obtain ⟨b, off, zA, zc, hA, hb, zh1, zh2, zh3⟩ := hrd.at (i := j) (by rw [numd_len]; exact hjl)
      clear zh1 zh2 zh3 zA zc
      obtain ⟨E, lo, Aj, cj, c5, hcj, hcell, hO, hstep⟩ := HM.out.step HG.out hjl
      have hc := hcell b off hA
      subst hA
      have hml := HL.out j hjl
      have hs := tl_succ hjl
      have HO := Lib.hid hO
      have HS := Lib.hid hstep
      clear hrd hcell hO hstep
      generalize xss.getD j [] = xs at *
      have HE : Hid (k + (tl xss j : Nat) + (xs.length : Nat) = k + ((tl xss (j + 1) : Nat) : Int)) := Lib.hid (by rw [hs]; omega)
      clear hs
      generalize tl xss j = t at *
      go_wp2_with fail
      refine (markRow_any E Aj cj c5 _ lo xs (k + t) _ rfl HO.out (by omega) (by omega) (by omega)).mono ?_
      rintro e w2 ⟨rfl, hO2, hG2, _⟩
      have hN := HS.out w2 hO2 hG2
      obtain ⟨M2, hM2, hGS⟩ := hN
      have HM2 := Lib.hid hM2
      have HGS := Lib.hid hGS
      clear hO2 hG2 hM2 hGS
      rw [HE.out]
      go_wp2
      go_roundw
      case rel => exact ⟨j + 1, M2, by omega, by go_num, rfl, HM2, HGS⟩
      case measure => simp [intOf]; omega
    · have hj' : j = n := by omega
      go_wp2
      go_ret
      have hn := Hn.out
      subst hj'
      rw [hn] at HM
      exact ⟨by rw [hn]; rfl, M', by rw [← numd_all]; exact HM.out, HG.out⟩
set_option maxHeartbeats 4000000 in
theorem heldIntSS_any (A : Option Addr) (c n : Nat) (xss : List (List Int)) (hn : n = xss.length) (k : Int) (w : World) (h : Rdss w w.heap.size A (nums k xss)) (hl : tot xss ≤ 2000000) (hk0 : 0 ≤ k) (hk1 : k ≤ 50000000) :
    Calls Try.prog 33 #[.slice A n c, .int .i64 k] w fun e w' => e = .returned (.int .i64 (k + (tl xss xss.length : Nat))) ∧ w = w' := by
  have Hh := Lib.hid h
  have Hn := Lib.hid hn
  have HL : Hid (∀ i, i < xss.length → (xss.getD i []).length ≤ 2000000 ∧ tl xss i ≤ 2000000) := Lib.hid fun i hi => ⟨Nat.le_trans (len_le_tot hi) hl, by have := tl_mono (xss := xss) (k := i) (n := xss.length) (by omega) (Nat.le_refl _); unfold tot at hl; omega⟩
  have hnl : n ≤ 2000000 := by rw [hn]; unfold tot at hl; omega
  clear h hn hl
  go_enter Try.func33, Try.ntmps33
  go_wp2
  go_loop [1, 5] (fun q i => ∃ j : Nat, j ≤ n ∧ i = .int .i64 j ∧ q = .int .i64 (k + (tl xss j : Nat))) (fun _ i => n - (intOf i).toNat)
  case atStart => exact ⟨0, Nat.zero_le _, rfl, by rw [tl_zero]; simp⟩
  case round =>
    obtain ⟨j, hj, rfl, rfl⟩ := hrel
    by_cases hlt : j < n
    · have hjl : j < xss.length := by have := Hn.out; omega
      obtain ⟨b, off, Ai, ci, rfl, hb, hci, hc, hr⟩ := Hh.out.at (i := j) (by rw [nums_len]; exact hjl)
      rw [nums_get k xss hjl, marks_len] at hc
      rw [nums_get k xss hjl] at hr
      have hml := HL.out j hjl
      have hs := tl_succ hjl
      have HR := Lib.hid hr
      clear hr hci
      generalize (xss.getD j []).length = m at *
      have HE : Hid (k + (tl xss j : Nat) + (m : Nat) = k + ((tl xss (j + 1) : Nat) : Int)) := Lib.hid (by rw [hs]; omega)
      clear hs
      generalize tl xss j = t at *
      go_wp2_with fail
      refine (heldIntS_any Ai ci _ m (k + t) _ HR.out (by omega) (by omega) (by omega)).mono ?_
      rintro e w2 ⟨rfl, rfl⟩
      have hp : ¬ k + (t : Int) + (m : Int) < 0 := by omega
      go_wp2
      go_round
      case rel => exact ⟨j + 1, by omega, by go_num, by rw [HE.out]⟩
      case measure => simp [intOf]; omega
    · have hj' : j = n := by omega
      go_wp2
      go_ret
      have hn := Hn.out
      subst hj'
      exact ⟨by rw [hn]; rfl, rfl⟩
end Go.Proofs.Ytkjebidkkopalaa
