/- The laws' functions on lists of images: too large lists, copies, numbering. -/
import Derived.Test.YtfeldhhbnhdodaaImlS
import Derived.Test.YtfeldhhbnhdodaaLslS
namespace Go.Proofs.Ytfeldhhbnhdodaa
open Go.RowKit
set_option linter.unusedSimpArgs false
set_option linter.unusedVariables false
set_option maxRecDepth 20000

set_option maxHeartbeats 2000000 in
theorem szImageS_gt (A : Option Addr) (c : Nat) (ms : List Imv) (left : Int) (w : World) (hr : Rdim w w.heap.size A ms) (h0 : 0 ≤ left) (h1 : left ≤ 1048576) (h : left < (totI ms : Nat)) (hm : ms.length ≤ 9223372036854775807) (hmm : ∀ i, i < ms.length → (imv ms i).ds.length ≤ 9223372036854775807) :
    Calls Try.prog 24 #[.slice A ms.length c, .int .i64 left] w fun e w' => e = .returned (.int .i64 (-1)) ∧ Below w.heap.size w w' := by
  have Hr := Lib.hid hr
  have Hmm := Lib.hid hmm
  have Ht : Hid (left < ((ms.length + tl (ms.map (·.ds)) ms.length : Nat) : Int)) := Lib.hid h
  obtain ⟨n, hn⟩ : ∃ n, n = ms.length := ⟨_, rfl⟩
  have Hn := Lib.hid hn
  rw [← hn] at hm ⊢
  clear hr hn hmm h
  by_cases hnl : left < (n : Int)
  · go_enter Try.func24, Try.ntmps24
    go_wp2_with go_in
    go_ret
    exact ⟨rfl, Below.refl _ _⟩
  go_enter Try.func24, Try.ntmps24
  go_wp2
  go_loopw [1, 5] (fun l i wr => ∃ (k : Nat) (q : Int), k ≤ n ∧ i = .int .i64 k ∧ l = .int .i64 q ∧ Hid (q = left - n - (tl (ms.map (·.ds)) k : Nat)) ∧ Hid (0 ≤ q) ∧ Below w.heap.size w wr) (fun _ i _ => n - (intOf i).toNat)
  case atStart => exact ⟨0, left - n, Nat.zero_le _, rfl, rfl, Lib.hid (by rw [tl_zero]; simp), Lib.hid (by omega), Below.refl _ _⟩
  case round =>
    obtain ⟨k, q, hk, rfl, rfl, HQ, HP, hbel⟩ := hrel
    by_cases hlt : k < n
    · have hkl : k < ms.length := by have := Hn.out; omega
      obtain ⟨b, off, Ai, ci, rfl, hb, hci, x0, x1, x2, x3, _⟩ := Hr.out.at hkl
      have hx0 := (hbel.cell (p := ⟨b, off + k * 4, none⟩) hb).trans x0
      have hx1 := (hbel.cell (p := ⟨b, off + k * 4 + 1, none⟩) hb).trans x1
      have hx2 := (hbel.cell (p := ⟨b, off + k * 4 + 2, none⟩) hb).trans x2
      have hx3 := (hbel.cell (p := ⟨b, off + k * 4 + 3, none⟩) hb).trans x3
      have hs := tl_succ (xss := ms.map (·.ds)) (k := k) (by simpa using hkl)
      have hd : (ms.map (·.ds)).getD k [] = (imv ms k).ds := by unfold imv; simp [List.getD_eq_getElem?_getD, hkl]
      rw [hd] at hs
      have hq := HQ.out
      have hp := HP.out
      have hml := Hmm.out k hkl
      clear x0 x1 x2 x3 hd
      generalize imv ms k = v at *
      generalize v.ds.length = m at *
      have hq0 : 0 ≤ q ∧ q ≤ 1048576 := by omega
      have hkn : k ≤ 1048576 := by omega
      by_cases hmq : (m : Int) ≤ q
      · have HN : Hid (q - m = left - n - (tl (ms.map (·.ds)) (k + 1) : Nat)) := Lib.hid (by omega)
        clear hs hq hp hnl
        go_wp2_with fail
        refine (szImage_le v.X v.Y v.Z Ai ci m q _ hq0.1 hq0.2 hmq).mono ?_
        rintro e w2 ⟨rfl, hB2⟩
        have hbd := hbel.trans (hB2.mono hbel.size)
        have hq2 : ¬ q - m < 0 := by omega
        clear hbel hB2
        go_wp2
        go_roundw
        case rel => exact ⟨k + 1, q - m, by omega, by go_num, rfl, HN, Lib.hid (by omega), hbd⟩
        case measure => simp [intOf]; omega
      · have hmq' : q < (m : Int) := by omega
        clear hs hq hp hnl
        go_wp2_with fail
        refine (szImage_gt v.X v.Y v.Z Ai ci m q _ hq0.1 hq0.2 hmq' hml).mono ?_
        rintro e w2 ⟨rfl, hB2⟩
        have hbd := hbel.trans (hB2.mono hbel.size)
        clear hbel hB2
        go_wp2
        go_ret
        exact ⟨rfl, hbd⟩
    · have hk' : k = n := by omega
      have hf : False := by have h1 := HQ.out; have h2 := HP.out; have h3 := Ht.out; have h4 := Hn.out; subst hk'; subst h4; omega
      exact hf.elim
/-- The rows and cells of the first k of n images. -/
def ImP (n k : Nat) (cs : List Value) (R : List Rg) (ms : List Imv) : Prop :=
  R.length = k ∧ cs.length = n * 4 ∧ ∀ i, i < k → ∃ E lo hi Ai ci c', (imv ms i).ds.length ≤ ci ∧
    cs[i * 4]? = some (.int .i64 (imv ms i).X) ∧ cs[i * 4 + 1]? = some (.int .i64 (imv ms i).Y) ∧ cs[i * 4 + 2]? = some (.int .i64 (imv ms i).Z) ∧
    cs[i * 4 + 3]? = some (.slice Ai (imv ms i).ds.length ci) ∧ R[i]? = some (rt E 1 lo hi (.slice Ai (imv ms i).ds.length c') (imv ms i).ds.length (imv ms i).ds)
theorem set4_old {cs : List Value} {x y z s : Value} {k j : Nat} (h : j < k * 4) : ((((cs.set (k * 4) x).set (k * 4 + 1) y).set (k * 4 + 2) z).set (k * 4 + 3) s)[j]? = cs[j]? := by
  rw [List.getElem?_set_ne (by omega), List.getElem?_set_ne (by omega), List.getElem?_set_ne (by omega), List.getElem?_set_ne (by omega)]
theorem set4_new {cs : List Value} {x y z s : Value} {k : Nat} (h : k * 4 + 3 < cs.length) :
    ((((cs.set (k * 4) x).set (k * 4 + 1) y).set (k * 4 + 2) z).set (k * 4 + 3) s)[k * 4]? = some x ∧ ((((cs.set (k * 4) x).set (k * 4 + 1) y).set (k * 4 + 2) z).set (k * 4 + 3) s)[k * 4 + 1]? = some y ∧
    ((((cs.set (k * 4) x).set (k * 4 + 1) y).set (k * 4 + 2) z).set (k * 4 + 3) s)[k * 4 + 2]? = some z ∧ ((((cs.set (k * 4) x).set (k * 4 + 1) y).set (k * 4 + 2) z).set (k * 4 + 3) s)[k * 4 + 3]? = some s := by
  refine ⟨?_, ?_, ?_, ?_⟩
  · rw [List.getElem?_set_ne (by omega), List.getElem?_set_ne (by omega), List.getElem?_set_ne (by omega), List.getElem?_set_self (by omega)]
  · rw [List.getElem?_set_ne (by omega), List.getElem?_set_ne (by omega), List.getElem?_set_self (by simp; omega)]
  · rw [List.getElem?_set_ne (by omega), List.getElem?_set_self (by simp; omega)]
  · rw [List.getElem?_set_self (by simp; omega)]
theorem ImP.add {n k : Nat} {cs : List Value} {R : List Rg} {ms : List Imv} (h : ImP n k cs R ms) (hk : k < n) {lo hi c : Nat} {A : Option Addr} {m : Imv} (e : imv ms k = m) (hc : m.ds.length ≤ c) :
    ImP n (k + 1) ((((cs.set (k * 4) (.int .i64 m.X)).set (k * 4 + 1) (.int .i64 m.Y)).set (k * 4 + 2) (.int .i64 m.Z)).set (k * 4 + 3) (.slice A m.ds.length c)) (R ++ [ri lo hi (.slice A m.ds.length c) m.ds]) ms := by
  obtain ⟨hR, hcs, hm⟩ := h
  refine ⟨by simp [hR], by simp [hcs], fun i hi2 => ?_⟩
  by_cases e2 : i = k
  · subst e2
    rw [e]
    obtain ⟨q0, q1, q2, q3⟩ := set4_new (cs := cs) (x := .int .i64 m.X) (y := .int .i64 m.Y) (z := .int .i64 m.Z) (s := .slice A m.ds.length c) (k := i) (by omega)
    refine ⟨3, lo, hi, A, c, c, hc, q0, q1, q2, q3, ?_⟩
    rw [List.getElem?_append_right (by rw [hR]; exact Nat.le_refl _), hR, Nat.sub_self]; rfl
  · obtain ⟨E, l2, h2, A2, c2, c3, k1, k2, k3, k4, k5, k6⟩ := hm i (by omega)
    refine ⟨E, l2, h2, A2, c2, c3, k1, ?_, ?_, ?_, ?_, ?_⟩
    · rw [set4_old (by omega)]; exact k2
    · rw [set4_old (by omega)]; exact k3
    · rw [set4_old (by omega)]; exact k4
    · rw [set4_old (by omega)]; exact k5
    · rw [List.getElem?_append_left (by rw [hR]; omega)]; exact k6
theorem ImP.imM {cs : List Value} {R : List Rg} {ms : List Imv} (h : ImP ms.length ms.length cs R ms) (lo hi : Nat) (A : Option Addr) (c : Nat) : ImM (hdrI lo hi A ms.length c cs :: R) A c ms := ⟨lo, hi, cs, R, rfl, h.1, h.2.1, h.2.2⟩
theorem info_Img2 : (Try.prog.info? 25).map (fun i => (i.zero, i.size, i.bytes)) = some (some (.agg #[.int .i64 0, .int .i64 0, .int .i64 0, .slice none 0 0]), 4, 48) := by kernel_rfl
def zimg (n : Nat) : Array Value := madeCells (Value.agg #[.int .i64 0, .int .i64 0, .int .i64 0, .slice none 0 0]).cells (n * 4)
theorem make_images (n : Nat) (hn : n ≤ 10000000) (W : World) : (Instr.makeSlice 27 (.int .i64 (n : Int)) (.int .i64 (n : Int))).run Try.prog W = .ok (.slice (some ⟨W.heap.size, 0, none⟩) n n) (W.alloc (.cells (zimg n) 25)) := by
  obtain ⟨i, hi, hz, hs, hb⟩ := info_parts info_Img2
  have h := run_make (P := Try.prog) W 27 25 i _ Try.underlying27 hi hz .i64 .i64 n n (by omega) (Int.le_refl _) (by rw [hb]; omega) (by omega)
  simp only [Int.toNat_natCast, hs] at h
  exact h
theorem GS.newI (w : World) (n : Nat) (hn : n ≤ 2000000) : GS w (w.alloc (.cells (zimg n) 25)) [hdrI w.heap.size (w.heap.size + 1) (some ⟨w.heap.size, 0, none⟩) n n (zimg n).toList] [] := by
  have hO : (w.alloc (.cells (zimg n) 25)).ownsRow w.heap.size 25 4 (.slice (some ⟨w.heap.size, 0, none⟩) n n) n (zimg n).toList :=
    ⟨by simp [zimg, size_madeCells], .inr ⟨w.heap.size, n, _, rfl, Nat.le_refl _, heap_alloc_new w _, Nat.le_refl _, by unfold maxLen; omega, by simp [zimg, size_madeCells], by rw [List.take_of_length_le (by simp [zimg, size_madeCells])]⟩⟩
  have h := (GS.start w).addR hO ((Below.refl _ _).alloc (Nat.le_refl _) _)
  have e : (w.alloc (.cells (zimg n) 25)).heap.size = w.heap.size + 1 := Array.size_push _
  rw [e] at h
  exact h
/-- Four cells of the row of structs are written. -/
theorem GS.set4 {W0 w : World} {L1 L2 : List Rg} {Bs : List Bxg} {lo hi g n c : Nat} {cs : List Value} (h : GS W0 w (L1 ++ hdrI lo hi (some ⟨g, 0, none⟩) n c cs :: L2) Bs) (k : Nat) (x y z s : Value) :
    GS W0 ((((w.setCell ⟨g, k * 4, none⟩ x).setCell ⟨g, k * 4 + 1, none⟩ y).setCell ⟨g, k * 4 + 2, none⟩ z).setCell ⟨g, k * 4 + 3, none⟩ s) (L1 ++ hdrI lo hi (some ⟨g, 0, none⟩) n c ((((cs.set (k * 4) x).set (k * 4 + 1) y).set (k * 4 + 2) z).set (k * 4 + 3) s) :: L2) Bs := by
  have ho : w.ownsRow lo 25 4 (.slice (some ⟨g, 0, none⟩) n c) n cs := (h.2.1 (hdrI lo hi (some ⟨g, 0, none⟩) n c cs) (by simp)).1.1
  have s1 := World.ownsRow.stored ho (k * 4) x
  have s2 := World.ownsRow.stored s1.1 (k * 4 + 1) y
  have s3 := World.ownsRow.stored s2.1 (k * 4 + 2) z
  have s4 := World.ownsRow.stored s3.1 (k * 4 + 3) s
  exact GS.markR h s4.1 (gtrans (gtrans (gtrans s1.2 s2.2) s3.2) s4.2)
/-- Three cells of the row of structs are written. -/
theorem GS.set3 {W0 w : World} {L1 L2 : List Rg} {Bs : List Bxg} {lo hi g n c : Nat} {cs : List Value} (h : GS W0 w (L1 ++ hdrI lo hi (some ⟨g, 0, none⟩) n c cs :: L2) Bs) (k : Nat) (x y z : Value) :
    GS W0 (((w.setCell ⟨g, k * 4, none⟩ x).setCell ⟨g, k * 4 + 1, none⟩ y).setCell ⟨g, k * 4 + 2, none⟩ z) (L1 ++ hdrI lo hi (some ⟨g, 0, none⟩) n c (((cs.set (k * 4) x).set (k * 4 + 1) y).set (k * 4 + 2) z) :: L2) Bs := by
  have ho : w.ownsRow lo 25 4 (.slice (some ⟨g, 0, none⟩) n c) n cs := (h.2.1 (hdrI lo hi (some ⟨g, 0, none⟩) n c cs) (by simp)).1.1
  have s1 := World.ownsRow.stored ho (k * 4) x
  have s2 := World.ownsRow.stored s1.1 (k * 4 + 1) y
  have s3 := World.ownsRow.stored s2.1 (k * 4 + 2) z
  exact GS.markR h s3.1 (gtrans (gtrans s1.2 s2.2) s3.2)
def MadeIM (ms : List Imv) (w : World) (e : Ending) (w' : World) : Prop := ∃ M A c, e = .returned (.slice A ms.length c) ∧ ms.length ≤ c ∧ ImM M A c ms ∧ GS w w' M []
theorem len_le_totI {ms : List Imv} {i : Nat} (h : i < ms.length) : (imv ms i).ds.length ≤ totI ms := by
  have := tl_mono (xss := ms.map (·.ds)) (k := i + 1) (n := ms.length) (by omega) (by simp)
  have e : (ms.map (·.ds)).getD i [] = (imv ms i).ds := by unfold imv; simp [List.getD_eq_getElem?_getD, h]
  rw [tl_succ (by simpa using h), e] at this
  unfold totI; omega
set_option maxHeartbeats 4000000 in
theorem toImageS_any (A : Option Addr) (c : Nat) (ms : List Imv) (w : World) (h : Rdim w w.heap.size A ms) (hl : totI ms ≤ 2000000) :
    Calls Try.prog 25 #[.slice A ms.length c] w (MadeIM ms w) := by
  have Hh := Lib.hid h
  have HL : Hid (∀ i, i < ms.length → (imv ms i).ds.length ≤ 2000000) := Lib.hid fun i hi => Nat.le_trans (len_le_totI hi) hl
  obtain ⟨n, hn⟩ : ∃ n, n = ms.length := ⟨_, rfl⟩
  have Hn := Lib.hid hn
  have hnl : n ≤ 2000000 := by rw [hn]; unfold totI at hl; omega
  have H0 := Lib.hid (GS.newI w n hnl)
  have hmk := fun W => make_images n (by omega) W
  show Calls Try.prog 25 #[.slice A ms.length c] w (fun e w' => MadeIM ms w e w')
  rw [← hn]
  clear h hn hl
  go_enter Try.func25, Try.ntmps25
  go_wp2
  go_loopw [4] (fun i wr => ∃ (k : Nat) (cs : List Value) (R : List Rg), k ≤ n ∧ i = .int .i64 k ∧ Hid (ImP n k cs R ms) ∧ Hid (GS w wr (hdrI w.heap.size (w.heap.size + 1) (some ⟨w.heap.size, 0, none⟩) n n cs :: R) [])) (fun i _ => n - (intOf i).toNat)
  case atStart => exact ⟨0, (zimg n).toList, [], Nat.zero_le _, rfl, Lib.hid ⟨rfl, by simp [zimg, size_madeCells], fun i hi => by omega⟩, H0⟩
  case round =>
    obtain ⟨k, cs, R, hk, rfl, HR, HG⟩ := hrel
    by_cases hlt : k < n
    · have hkl : k < ms.length := by have := Hn.out; omega
      obtain ⟨b, off, Ai, ci, rfl, hb, hci, x0, x1, x2, x3, hr0⟩ := Hh.out.at hkl
      have hbel := HG.out.below
      have hx0 := (hbel.cell (p := ⟨b, off + k * 4, none⟩) hb).trans x0
      have hx1 := (hbel.cell (p := ⟨b, off + k * 4 + 1, none⟩) hb).trans x1
      have hx2 := (hbel.cell (p := ⟨b, off + k * 4 + 2, none⟩) hb).trans x2
      have hx3 := (hbel.cell (p := ⟨b, off + k * 4 + 3, none⟩) hb).trans x3
      have HR1 := Lib.hid ((hr0.below hbel).more hbel.size)
      have hml := HL.out k hkl
      obtain ⟨v, hv⟩ : ∃ v, imv ms k = v := ⟨_, rfl⟩
      have HE := Lib.hid hv
      rw [hv] at hx0 hx1 hx2 hx3 HR1 hml hci
      clear x0 x1 x2 x3 hr0 hbel hv
      go_wp2_with fail
      refine (toImage_any v.X v.Y v.Z Ai ci v.ds _ HR1.out (by omega)).mono ?_
      rintro e w2 ⟨z, rfl, hO, hB⟩
      obtain ⟨A2, c2, rfl, hc2⟩ := hO.slice
      have S1 := HG.out.add hO hB
      have hown : w2.ownsRow w.heap.size 25 4 (.slice (some ⟨w.heap.size, 0, none⟩) n n) n cs := (S1.2.1 _ (List.mem_cons_of_mem _ (List.Mem.head _))).1.1
      have hcl := HR.out.2.1
      have hcw : ∀ d, d < 4 → ∃ y, w2.cell? ⟨w.heap.size, k * 4 + d, none⟩ = some y := fun d hd => by
        rw [cell_own4 hown (by omega)]
        exact ⟨_, List.getElem?_eq_getElem (by omega)⟩
      obtain ⟨y0, hc0⟩ := hcw 0 (by omega)
      rw [Nat.add_zero] at hc0
      obtain ⟨y1, hc1⟩ := hcw 1 (by omega)
      obtain ⟨y2, hc2'⟩ := hcw 2 (by omega)
      obtain ⟨y3, hc3⟩ := hcw 3 (by omega)
      have hf0 := World.ownsRow.frozenAt hown (k * 4)
      have hf1 := World.ownsRow.frozenAt hown (k * 4 + 1)
      have hf2 := World.ownsRow.frozenAt hown (k * 4 + 2)
      have hf3 := World.ownsRow.frozenAt hown (k * 4 + 3)
      have HN := Lib.hid (GS.set4 (L1 := [ri wr.heap.size w2.heap.size (.slice A2 v.ds.length c2) v.ds]) S1 k (.int .i64 v.X) (.int .i64 v.Y) (.int .i64 v.Z) (.slice A2 v.ds.length c2))
      have HP := Lib.hid (HR.out.add hlt (lo := wr.heap.size) (hi := w2.heap.size) (A := A2) HE.out hc2)
      clear S1 hown hO hB hcl hcw HE
      go_wp2
      go_roundw
      case rel => exact ⟨k + 1, _, _, by omega, by go_num, HP, Lib.hid (HN.out.perm ((List.Perm.swap _ _ _).trans (List.Perm.cons _ (List.perm_append_singleton _ _).symm)))⟩
      case measure => simp [intOf]; omega
    · have hk' : k = n := by omega
      go_wp2
      go_ret
      have hG := HG.out
      have hR := HR.out
      have hnx := Hn.out
      subst hk'
      subst hnx
      exact ⟨_, _, _, rfl, Nat.le_refl _, ImP.imM hR w.heap.size (w.heap.size + 1) (some ⟨w.heap.size, 0, none⟩) ms.length, hG⟩
/-- The first j images are numbered. -/
def nudI (k : Int) (ms : List Imv) (j : Nat) : List Imv := (List.range ms.length).map fun i => if i < j then ⟨k + ofI ms i, k + ofI ms i + 1, k + ofI ms i + 2, marks (k + ofI ms i + 3) (imv ms i).ds.length⟩ else imv ms i
theorem nudI_len (k : Int) (ms : List Imv) (j : Nat) : (nudI k ms j).length = ms.length := by simp [nudI]
theorem nudI_get (k : Int) (ms : List Imv) (j : Nat) {i : Nat} (h : i < ms.length) : imv (nudI k ms j) i = if i < j then ⟨k + ofI ms i, k + ofI ms i + 1, k + ofI ms i + 2, marks (k + ofI ms i + 3) (imv ms i).ds.length⟩ else imv ms i := by
  show (nudI k ms j).getD i default = _
  simp [nudI, List.getD_eq_getElem?_getD, h]
theorem nudI_zero (k : Int) (ms : List Imv) : nudI k ms 0 = ms := by
  apply List.ext_getElem?
  intro i
  by_cases h : i < ms.length
  · simp [nudI, h, imv, List.getD_eq_getElem?_getD]
  · simp [nudI, h]
theorem nudI_all (k : Int) (ms : List Imv) : nudI k ms ms.length = numI k ms := by
  unfold nudI numI
  refine List.map_congr_left fun i hi => ?_
  rw [if_pos (List.mem_range.1 hi)]
theorem nudI_old (k : Int) (ms : List Imv) {j : Nat} (h : j < ms.length) : imv (nudI k ms j) j = imv ms j := by
  rw [nudI_get k ms j h, if_neg (Nat.lt_irrefl _)]
theorem set3_old {cs : List Value} {x y z : Value} {k j : Nat} (h : j < k * 4 ∨ k * 4 + 3 ≤ j) : (((cs.set (k * 4) x).set (k * 4 + 1) y).set (k * 4 + 2) z)[j]? = cs[j]? := by
  rw [List.getElem?_set_ne (by omega), List.getElem?_set_ne (by omega), List.getElem?_set_ne (by omega)]
theorem set3_new {cs : List Value} {x y z : Value} {k : Nat} (h : k * 4 + 3 < cs.length) :
    (((cs.set (k * 4) x).set (k * 4 + 1) y).set (k * 4 + 2) z)[k * 4]? = some x ∧ (((cs.set (k * 4) x).set (k * 4 + 1) y).set (k * 4 + 2) z)[k * 4 + 1]? = some y ∧ (((cs.set (k * 4) x).set (k * 4 + 1) y).set (k * 4 + 2) z)[k * 4 + 2]? = some z := by
  refine ⟨?_, ?_, ?_⟩
  · rw [List.getElem?_set_ne (by omega), List.getElem?_set_ne (by omega), List.getElem?_set_self (by omega)]
  · rw [List.getElem?_set_ne (by omega), List.getElem?_set_self (by simp; omega)]
  · rw [List.getElem?_set_self (by simp; omega)]
/-- One more image is numbered: three cells of its struct are written, then its row. -/
theorem ImM.step {W0 w : World} {L1 L2 M : List Rg} {Bs : List Bxg} {A : Option Addr} {c : Nat} {ms : List Imv} {k : Int} {j : Nat} (h : GS W0 w (L1 ++ M ++ L2) Bs) (hM : ImM M A c (nudI k ms j)) (hj : j < ms.length) :
    ∃ E lo g Aj cj c', A = some ⟨g, 0, none⟩ ∧ (imv ms j).ds.length ≤ cj ∧ (∀ d, d < 4 → ∃ y, w.cell? ⟨g, j * 4 + d, none⟩ = some y) ∧ (∀ i, w.frozen? ⟨g, i, none⟩ = false) ∧ w.cell? ⟨g, j * 4 + 3, none⟩ = some (.slice Aj (imv ms j).ds.length cj) ∧
      ∀ w1, w1 = (((w.setCell ⟨g, j * 4, none⟩ (.int .i64 (k + ofI ms j))).setCell ⟨g, j * 4 + 1, none⟩ (.int .i64 (k + ofI ms j + 1))).setCell ⟨g, j * 4 + 2, none⟩ (.int .i64 (k + ofI ms j + 2))) →
        OwnT E 1 w1 lo (.slice Aj (imv ms j).ds.length c') (imv ms j).ds.length (imv ms j).ds ∧
        ∀ w', OwnT E 1 w' lo (.slice Aj (imv ms j).ds.length c') (imv ms j).ds.length (marks (k + ofI ms j + 3) (imv ms j).ds.length) → w1.grownBy w' (Value.slice Aj (imv ms j).ds.length c').ownBlock → ∃ M', ImM M' A c (nudI k ms (j + 1)) ∧ GS W0 w' (L1 ++ M' ++ L2) Bs := by
  obtain ⟨lo, hi, cs, R, rfl, hl, hcl, hR⟩ := hM
  rw [nudI_len] at hl hcl hR
  obtain ⟨E, lo2, hi2, Aj, cj, c', hcj, k0, k1, k2, hcsj, hr⟩ := hR j hj
  rw [nudI_old k ms hj] at hcj k0 k1 k2 hcsj hr
  have hsplit : R = R.take j ++ rt E 1 lo2 hi2 (.slice Aj (imv ms j).ds.length c') (imv ms j).ds.length (imv ms j).ds :: R.drop (j + 1) := by
    have hjl : j < R.length := by omega
    have e1 : R[j] = rt E 1 lo2 hi2 (.slice Aj (imv ms j).ds.length c') (imv ms j).ds.length (imv ms j).ds := by rw [List.getElem?_eq_getElem hjl] at hr; exact Option.some.inj hr
    rw [← e1, List.getElem_cons_drop, List.take_append_drop]
  have ho : w.ownsRow lo 25 4 (.slice A (nudI k ms j).length c) (nudI k ms j).length cs := (h.2.1 _ (List.mem_append.2 (.inl (List.mem_append.2 (.inr (List.Mem.head _)))))).1.1
  rw [nudI_len] at ho
  obtain ⟨g, hA⟩ : ∃ g, A = some ⟨g, 0, none⟩ := by
    rcases ho.2 with ⟨h0, h1⟩ | ⟨g, cap, cur, hv, r⟩
    · omega
    · simp only [Value.slice.injEq] at hv
      exact ⟨g, hv.1⟩
  subst hA
  refine ⟨E, lo2, g, Aj, cj, c', rfl, hcj, fun d hd => ?_, fun i => World.ownsRow.frozenAt ho i, ?_, fun w1 e1 => ?_⟩
  · rw [cell_own4 ho (by omega)]
    exact ⟨_, List.getElem?_eq_getElem (by omega)⟩
  · rw [cell_own4 ho (by omega)]; exact hcsj
  · subst e1
    have h2 : GS W0 w (L1 ++ hdrI lo hi (some ⟨g, 0, none⟩) ms.length c cs :: (R ++ L2)) Bs := by
      rw [← nudI_len k ms j]
      simpa only [List.append_assoc, List.cons_append] using h
    have h3 := GS.set3 h2 j (.int .i64 (k + ofI ms j)) (.int .i64 (k + ofI ms j + 1)) (.int .i64 (k + ofI ms j + 2))
    refine ⟨h3.ownT (lo := lo2) (hi := hi2) (List.mem_append.2 (.inr (List.mem_cons_of_mem _ (List.mem_append.2 (.inl (List.mem_of_getElem? hr)))))), fun w' hO hG => ?_⟩
    refine ⟨hdrI lo hi (some ⟨g, 0, none⟩) (nudI k ms (j + 1)).length c (((cs.set (j * 4) (.int .i64 (k + ofI ms j))).set (j * 4 + 1) (.int .i64 (k + ofI ms j + 1))).set (j * 4 + 2) (.int .i64 (k + ofI ms j + 2))) :: (R.take j ++ rt E 1 lo2 hi2 (.slice Aj (imv ms j).ds.length c') (imv ms j).ds.length (marks (k + ofI ms j + 3) (imv ms j).ds.length) :: R.drop (j + 1)), ⟨lo, hi, _, _, rfl, ?_, ?_, fun i hi => ?_⟩, ?_⟩
    · rw [nudI_len]; simp; omega
    · rw [nudI_len]; simp [hcl]
    · rw [nudI_len] at hi
      by_cases e : i = j
      · subst e
        rw [nudI_get k ms _ hi, if_pos (Nat.lt_succ_self _)]
        obtain ⟨q0, q1, q2⟩ := set3_new (cs := cs) (x := .int .i64 (k + ofI ms i)) (y := .int .i64 (k + ofI ms i + 1)) (z := .int .i64 (k + ofI ms i + 2)) (k := i) (by omega)
        refine ⟨E, lo2, hi2, Aj, cj, c', by rw [marks_len]; exact hcj, q0, q1, q2, ?_, ?_⟩
        · rw [set3_old (by omega), marks_len]; exact hcsj
        · rw [List.getElem?_append_right (by rw [List.length_take]; omega), List.length_take, Nat.min_eq_left (show i ≤ R.length by omega), Nat.sub_self, marks_len]
          rfl
      · obtain ⟨E3, lo3, hi3, A3, c3, c3', hc3, p0, p1, p2, hcs3, hr3⟩ := hR i hi
        have e2 : imv (nudI k ms (j + 1)) i = imv (nudI k ms j) i := by
          rw [nudI_get k ms _ hi, nudI_get k ms _ hi]
          by_cases h1 : i < j
          · rw [if_pos h1, if_pos (by omega)]
          · rw [if_neg h1, if_neg (by omega)]
        rw [e2]
        refine ⟨E3, lo3, hi3, A3, c3, c3', hc3, ?_, ?_, ?_, ?_, ?_⟩
        · rw [set3_old (by omega)]; exact p0
        · rw [set3_old (by omega)]; exact p1
        · rw [set3_old (by omega)]; exact p2
        · rw [set3_old (by omega)]; exact hcs3
        rw [← hr3]
        conv => rhs; rw [hsplit]
        simp only [List.getElem?_append, List.getElem?_cons, List.length_take]
        by_cases h1 : i < min j R.length
        · simp [h1]
        · rw [if_neg h1, if_neg h1]
          have : i - min j R.length ≠ 0 := by omega
          simp [this]
    · rw [hsplit] at h3
      have h5 := GS.markT (L1 := L1 ++ hdrI lo hi (some ⟨g, 0, none⟩) ms.length c (((cs.set (j * 4) (.int .i64 (k + ofI ms j))).set (j * 4 + 1) (.int .i64 (k + ofI ms j + 1))).set (j * 4 + 2) (.int .i64 (k + ofI ms j + 2))) :: R.take j) (L2 := R.drop (j + 1) ++ L2) (by simpa only [List.append_assoc, List.cons_append] using h3) hO hG
      rw [nudI_len]
      simpa only [List.append_assoc, List.cons_append] using h5
set_option maxHeartbeats 4000000 in
theorem markImageS_any {W0 : World} {L1 L2 M : List Rg} {Bs : List Bxg} (A : Option Addr) (c n : Nat) (ms : List Imv) (hn : n = ms.length) (k : Int) (w : World) (h : GS W0 w (L1 ++ M ++ L2) Bs) (hM : ImM M A c ms) (hl : ofI ms ms.length ≤ 4000000) (hk0 : 0 ≤ k) (hk1 : k ≤ 50000000) :
    Calls Try.prog 22 #[.slice A n c, .int .i64 k] w fun e w' => e = .returned (.int .i64 (k + (ofI ms ms.length : Nat))) ∧ ∃ M', ImM M' A c (numI k ms) ∧ GS W0 w' (L1 ++ M' ++ L2) Bs := by
  have HG0 := Lib.hid h
  have HM0 := Lib.hid hM
  have Hn := Lib.hid hn
  have HL : Hid (∀ i, i < ms.length → (imv ms i).ds.length ≤ 4000000 ∧ ofI ms i ≤ 4000000) := Lib.hid fun i hi => by
    have h1 := ofI_succ hi
    have h2 := ofI_mono (ms := ms) (j := i + 1) (n := ms.length) (by omega) (Nat.le_refl _)
    omega
  have hnl : n ≤ 4000000 := by rw [hn]; unfold ofI at hl; omega
  clear h hM hn hl
  go_enter Try.func22, Try.ntmps22
  go_wp2
  go_loopw [1, 5] (fun q i wr => ∃ (j : Nat) (M' : List Rg), j ≤ n ∧ i = .int .i64 j ∧ q = .int .i64 (k + (ofI ms j : Nat)) ∧ Hid (ImM M' A c (nudI k ms j)) ∧ Hid (GS W0 wr (L1 ++ M' ++ L2) Bs)) (fun _ i _ => n - (intOf i).toNat)
  case atStart => exact ⟨0, M, Nat.zero_le _, rfl, by rw [ofI_zero]; simp, Lib.hid (by rw [nudI_zero]; exact HM0.out), HG0⟩
  case round =>
    obtain ⟨j, M', hj, rfl, rfl, HM, HG⟩ := hrel
    by_cases hlt : j < n
    · have hjl : j < ms.length := by have := Hn.out; omega
      obtain ⟨E, lo, g, Aj, cj, c5, rfl, hcj, hcw, hf, hc3, hstep⟩ := HM.out.step HG.out hjl
      obtain ⟨y0, hc0⟩ := hcw 0 (by omega)
      rw [Nat.add_zero] at hc0
      obtain ⟨y1, hc1⟩ := hcw 1 (by omega)
      obtain ⟨y2, hc2⟩ := hcw 2 (by omega)
      have hf0 := hf (j * 4)
      have hf1 := hf (j * 4 + 1)
      have hf2 := hf (j * 4 + 2)
      have hml := HL.out j hjl
      have hs := ofI_succ hjl
      have HS := Lib.hid hstep
      clear hcw hf hstep
      generalize (imv ms j).ds = xs at *
      have HE : Hid (k + (ofI ms j : Nat) + 3 + (xs.length : Nat) = k + ((ofI ms (j + 1) : Nat) : Int)) := Lib.hid (by rw [hs]; omega)
      clear hs
      generalize ofI ms j = t at *
      obtain ⟨z, hz⟩ : ∃ z, z = k + (t : Int) := ⟨_, rfl⟩
      have hzb : 0 ≤ z ∧ z ≤ 54000000 := by omega
      rw [← hz] at HS HE ⊢
      clear hz
      have w1 : IntKind.i64.wrap (z + 1) = z + 1 := IntWalk.i64_in _ (by omega)
      have w2 : IntKind.i64.wrap (z + 1 + 1) = z + 2 := by rw [show z + 1 + 1 = z + 2 by omega]; exact IntWalk.i64_in _ (by omega)
      have w3 : IntKind.i64.wrap (z + 2 + 1) = z + 3 := by rw [show z + 2 + 1 = z + 3 by omega]; exact IntWalk.i64_in _ (by omega)
      have HS1 := Lib.hid (HS.out _ rfl)
      clear HS
      go_wp2_with fail
      refine (markRow_any E Aj cj c5 _ lo xs (z + 3) _ rfl HS1.out.1 (by omega) (by omega) (by omega)).mono ?_
      rintro e w2 ⟨rfl, hO2, hG2, _⟩
      have hN := HS1.out.2 w2 hO2 hG2
      obtain ⟨M2, hM2, hGS⟩ := hN
      have HM2 := Lib.hid hM2
      have HGS := Lib.hid hGS
      clear hO2 hG2 hM2 hGS
      rw [HE.out]
      go_wp2
      go_roundw
      case rel => exact ⟨j + 1, M2, by omega, by go_num, rfl, HM2, HGS⟩
      case measure => simp [intOf]; omega
    · have hj' : j = n := by omega
      go_wp2
      go_ret
      have hn := Hn.out
      subst hj'
      rw [hn] at HM
      exact ⟨by rw [hn]; rfl, M', by rw [← nudI_all]; exact HM.out, HG.out⟩
theorem ofI_tot (ms : List Imv) : ofI ms ms.length ≤ 3 * totI ms := by unfold ofI totI; omega
theorem eqImageS_tot (A A' : Option Addr) (c c' n n' : Nat) (ms : List Imv) (w : World) (hn : n = ms.length) (hn' : n' = ms.length) (hx : Rdim w w.heap.size A ms) (hy : Rdim w w.heap.size A' ms) (hl : totI ms ≤ 2000000) :
    Calls Try.prog 19 #[.slice A n c, .slice A' n' c'] w fun e w' => e = .returned (.bool true) ∧ Below w.heap.size w w' :=
  eqImageS_same A A' c c' n n' ms w hn hn' hx hy (by unfold totI at hl; omega) (fun i hi => Nat.le_trans (len_le_totI hi) hl)
theorem markImageS_tot {W0 : World} {L1 L2 M : List Rg} {Bs : List Bxg} (A : Option Addr) (c n : Nat) (ms : List Imv) (hn : n = ms.length) (k : Int) (w : World) (h : GS W0 w (L1 ++ M ++ L2) Bs) (hM : ImM M A c ms) (hl : totI ms ≤ 1048576) (hk0 : 0 ≤ k) (hk1 : k ≤ 50000000) :
    Calls Try.prog 22 #[.slice A n c, .int .i64 k] w fun e w' => e = .returned (.int .i64 (k + (ofI ms ms.length : Nat))) ∧ ∃ M', ImM M' A c (numI k ms) ∧ GS W0 w' (L1 ++ M' ++ L2) Bs :=
  markImageS_any A c n ms hn k w h hM (by have := ofI_tot ms; omega) hk0 hk1
theorem heldImageS_tot (A : Option Addr) (c n : Nat) (ms : List Imv) (hn : n = ms.length) (k : Int) (w : World) (h : Rdim w w.heap.size A (numI k ms)) (hl : totI ms ≤ 1048576) (hk0 : 0 ≤ k) (hk1 : k ≤ 50000000) :
    Calls Try.prog 23 #[.slice A n c, .int .i64 k] w fun e w' => e = .returned (.int .i64 (k + (ofI ms ms.length : Nat))) ∧ w = w' :=
  heldImageS_any A c n ms hn k w h (by have := ofI_tot ms; omega) hk0 hk1
end Go.Proofs.Ytfeldhhbnhdodaa
