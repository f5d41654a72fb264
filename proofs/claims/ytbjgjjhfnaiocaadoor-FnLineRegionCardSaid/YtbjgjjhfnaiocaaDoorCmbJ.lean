/- Merging of marks in the program. -/
import Derived.Test.YtbjgjjhfnaiocaaDoorCmbI
namespace Go.Proofs.YtbjgjjhfnaiocaaDoor
open Go.RowKit Go.Shelf
set_option linter.unusedSimpArgs false
set_option linter.unusedVariables false
set_option maxRecDepth 20000

/-- The state of merging: how many marks of both have been taken, and what has come. -/
def Mrg (GA GB GC : Nat → Bool) (u : World) (base : Nat) (w' : World) (l : Value) (p i j : Nat) : Prop :=
  p ≤ 272 ∧ i = (chgs GA p).length ∧ j = (chgs GB p).length ∧ MkSt u base w' l (chgs GC p)
theorem par_of (C : Nat → Bool) (q : Nat) : ((((chgs C q).length : Int).tmod 2) == 1) = prv C q ∧ ((((chgs C q).length : Int) % 2) == 1) = prv C q := by
  have h := chgs_odd C q
  rw [Int.tmod_eq_emod_of_nonneg (by omega)]
  have e : ((((chgs C q).length : Int) % 2) == 1) = prv C q := by
    rw [← h]
    rcases (show (chgs C q).length % 2 = 0 ∨ (chgs C q).length % 2 = 1 by omega) with e | e
    · rw [e, show ((chgs C q).length : Int) % 2 = 0 by omega]; rfl
    · rw [e, show ((chgs C q).length : Int) % 2 = 1 by omega]; rfl
  exact ⟨e, e⟩
set_option maxHeartbeats 32000000 in
theorem mergeMarks_any (k : Int) (f : Nat) (eg : ∀ args w, (callFunc f args).run Tryd.prog w = .ok (.enter f args) w) (hf : ∀ (a b : Bool) (w : World), Calls Tryd.prog f #[.bool a, .bool b] w fun e w' => e = .returned (.bool (krule k a b)) ∧ w' = w)
    (GA GB GC : Nat → Bool) (hC : ∀ q, GC q = krule k (GA q) (GB q)) (A A' : Option Addr) (c c' n m : Nat) (hn : n = (chgs GA 272).length) (hm : m = (chgs GB 272).length) (w : World) (hA : Rds .i64 w w.heap.size A (chgs GA 272)) (hB : Rds .i64 w w.heap.size A' (chgs GB 272)) :
    Calls Tryd.prog 59 #[.slice A n c, .slice A' m c', .func (.func f) #[] #[]] w fun e w' => ∃ v, e = .returned v ∧ Own w' w.heap.size v (chgs GC 272) ∧ Below w.heap.size w w' := by
  have HA := Lib.hid hA
  have HB := Lib.hid hB
  have Hn := Lib.hid hn
  have Hm := Lib.hid hm
  have HF := Lib.hid hf
  have HC := Lib.hid hC
  have HI0 : Hid (Mrg GA GB GC w w.heap.size w (.slice none 0 0) 0 0 0) := Lib.hid ⟨by omega, rfl, rfl, World.ownsRow_nil _ _ _ _, Below.refl _ _⟩
  have hnb : n ≤ 272 := by rw [hn]; exact chgs_len GA 272
  have hmb : m ≤ 272 := by rw [hm]; exact chgs_len GB 272
  clear hA hB hn hm hf hC
  go_enter Tryd.func59, Tryd.ntmps59
  go_wp2
  go_loopw [7, 8, 9] (fun v i j wr => ∃ (p ia jb : Nat), ia ≤ n ∧ jb ≤ m ∧ i = .int .i64 ia ∧ j = .int .i64 jb ∧ Hid (Mrg GA GB GC w w.heap.size wr v p ia jb)) (fun _ i j _ => (n - (intOf i).toNat) + (m - (intOf j).toNat))
  case atStart => exact ⟨0, 0, 0, Nat.zero_le _, Nat.zero_le _, rfl, rfl, HI0⟩
  case round =>
    clear HI0
    obtain ⟨p, ia, jb, hia, hjb, rfl, rfl, hI⟩ := hrel
    obtain ⟨hp, ei, ej, hM⟩ := hI.out
    obtain ⟨a, ha⟩ := next_ex GA 272 (272 - p) p (by omega)
    obtain ⟨b, hb⟩ := next_ex GB 272 (272 - p) p (by omega)
    have hga := chgs_get hp ha
    have hgb := chgs_get hp hb
    rw [← Hn.out, ← ei] at hga
    rw [← Hm.out, ← ej] at hgb
    have ha272 := ha.2.1
    have hb272 := hb.2.1
    by_cases hlt : min a b < 272
    · obtain ⟨s1, s2, s3, s4, s5, s6⟩ := merge_step (rule := krule k) HC.out (krule_ff k) ha hb hlt
      obtain ⟨q, hq⟩ : ∃ q, q = min a b := ⟨_, rfl⟩
      rw [← hq] at s1 s2 s3 s4 s5 s6
      have hq272 : q < 272 := by omega
      have hRA := Lib.hid ((HA.out.below hM.2).more hM.2.size)
      have hRB := Lib.hid ((HB.out.below hM.2).more hM.2.size)
      have hcond : ((ia : Int) < (n : Int)) ∨ (¬ (ia : Int) < (n : Int) ∧ (jb : Int) < (m : Int)) := by
        by_cases h : a = 272
        · right; have := hga.1 h; have := hgb.2 (by omega); omega
        · left; have := hga.2 (by omega); omega
      have hra : (ia = n → (a : Int) = 272) ∧ (ia < n → (chgs GA 272).getD ia 0 = (a : Int)) := by
        refine ⟨fun e => ?_, fun e => ?_⟩
        · by_cases h : a = 272
          · omega
          · have := hga.2 (by omega); omega
        · by_cases h : a = 272
          · have := hga.1 h; omega
          · exact (hga.2 (by omega)).2
      have hrb : (jb = m → (b : Int) = 272) ∧ (jb < m → (chgs GB 272).getD jb 0 = (b : Int)) := by
        refine ⟨fun e => ?_, fun e => ?_⟩
        · by_cases h : b = 272
          · omega
          · have := hgb.2 (by omega); omega
        · by_cases h : b = 272
          · have := hgb.1 h; omega
          · exact (hgb.2 (by omega)).2
      have HRa := Lib.hid hra
      have HRb := Lib.hid hrb
      have HEi := Lib.hid ei
      have HEj := Lib.hid ej
      -- what the marks are behind this one
      obtain ⟨ia', hia'⟩ : ∃ ia', ia' = (chgs GA (q + 1)).length := ⟨_, rfl⟩
      obtain ⟨jb', hjb'⟩ : ∃ jb', jb' = (chgs GB (q + 1)).length := ⟨_, rfl⟩
      have la : ia' = ia + (if a ≤ b then 1 else 0) := by rw [hia', s1, List.length_append, ← ei]; split <;> rfl
      have lb : jb' = jb + (if b ≤ a then 1 else 0) := by rw [hjb', s2, List.length_append, ← ej]; split <;> rfl
      have lan : ia' ≤ n := by
        by_cases h : a = 272
        · have h9 : ¬ a ≤ b := by omega
          rw [if_neg h9] at la; omega
        · have := hga.2 (by omega); rw [la]; split <;> omega
      have lbn : jb' ≤ m := by
        by_cases h : b = 272
        · have h9 : ¬ b ≤ a := by omega
          rw [if_neg h9] at lb; omega
        · have := hgb.2 (by omega); rw [lb]; split <;> omega
      obtain ⟨pa1, pa2⟩ := par_of GA (q + 1)
      obtain ⟨pb1, pb2⟩ := par_of GB (q + 1)
      obtain ⟨pc1, pc2⟩ := par_of GC p
      rw [← hia', s5] at pa1 pa2
      rw [← hjb', s6] at pb1 pb2
      obtain ⟨xa, hxa⟩ : ∃ xa, xa = GA q := ⟨_, rfl⟩
      obtain ⟨xb, hxb⟩ : ∃ xb, xb = GB q := ⟨_, rfl⟩
      obtain ⟨xc, hxc⟩ : ∃ xc, xc = prv GC p := ⟨_, rfl⟩
      rw [← hxa] at pa1 pa2
      rw [← hxb] at pb1 pb2
      rw [← hxc] at pc1 pc2
      obtain ⟨cq, hcq⟩ : ∃ cq, cq = krule k xa xb := ⟨_, rfl⟩
      have HF2 : Hid (∀ W : World, Calls Tryd.prog f #[.bool xa, .bool xb] W fun e w' => e = .returned (.bool cq) ∧ w' = W) := Lib.hid (fun W => by rw [hcq]; exact HF.out xa xb W)
      have HCq : Hid (GC q = cq) := Lib.hid (by rw [HC.out, hcq, hxa, hxb])
      have HPq : Hid (prv GC q = xc) := Lib.hid (by rw [s4, hxc])
      obtain ⟨L, hL⟩ : ∃ L, L = chgs GC p := ⟨_, rfl⟩
      have HL3 : Hid (chgs GC q = L) := Lib.hid (by rw [s3, hL])
      rw [← hL] at hM pc1 pc2
      have hLb : L.length ≤ 272 := by rw [hL]; have := chgs_len GC p; omega
      obtain ⟨A1, c1, rfl, _⟩ := hM.1.slice
      have HM := Lib.hid hM
      have Hq := Lib.hid (show (q : Int) = min (a : Int) (b : Int) by omega)
      have Hia' := Lib.hid hia'
      have Hjb' := Lib.hid hjb'
      have hsz : w.heap.size ≤ wr.heap.size := hM.2.size
      have hqI : 0 ≤ (q : Int) ∧ (q : Int) ≤ 272 := by omega
      clear hI hM hga hgb hra hrb ei ej ha hb s1 s2 s3 s4 s5 s6 hxa hxb hxc hcq hL hia' hjb' hlt
      have ho : (a < b) ∨ a = b ∨ b < a := by omega
      have key : Hid ((ia = ia' ∨ (ia : Int) + 1 = (ia' : Int)) ∧ (jb = jb' ∨ (jb : Int) + 1 = (jb' : Int))) := Lib.hid (by
        constructor
        · by_cases h : a ≤ b
          · rw [if_pos h] at la; right; omega
          · rw [if_neg h] at la; left; omega
        · by_cases h : b ≤ a
          · rw [if_pos h] at lb; right; omega
          · rw [if_neg h] at lb; left; omega)
      rcases ho with ho | ho | ho
      · have l1 : (a : Int) ≤ (b : Int) := by omega
        have l2 : ¬ (b : Int) ≤ (a : Int) := by omega
        have l3 : (a : Int) < (b : Int) := by omega
        have l4 : ¬ (b : Int) < (a : Int) := by omega
        have hqa : (q : Int) = (a : Int) := by have := Hq.out; omega
        rw [if_pos (by omega)] at la
        rw [if_neg (by omega)] at lb
        have ea : (ia : Int) + 1 = (ia' : Int) := by omega
        obtain rfl : jb = jb' := by omega
        clear lbn
        have hmz : ia ≤ n ∧ jb ≤ m := ⟨hia, hjb⟩
        have hms : (n - ia') + (m - jb) < (n - ia) + (m - jb) := by omega
        have Hms := Lib.hid hms
        have Hqa := Lib.hid hqa
        have hab : 0 ≤ (a : Int) ∧ (a : Int) ≤ 272 := by omega
        clear la lb hqa hms key hmz hq hqI
        have hcd : (ia : Int) < (n : Int) := by omega
        clear hcond
        all_goals
          go_wp2_with fail
          refine (markAt_any A c n ia (chgs GA 272) (a : Int) wr Hn.out hRA.out hia HRa.out).mono ?_
          rintro e w2 ⟨rfl, e2⟩; subst w2
          go_wp2_with fail
          refine (markAt_any A' c' m jb (chgs GB 272) (b : Int) wr Hm.out hRB.out hjb HRb.out).mono ?_
          rintro e w2 ⟨rfl, e2⟩; subst w2
          go_wp2_with fail
          refine (HF2.out wr).mono ?_
          rintro e w2 ⟨rfl, e2⟩; subst w2
          by_cases hcc : cq = xc
          · have HN : Hid (Mrg GA GB GC w w.heap.size wr (.slice A1 L.length c1) (q + 1) ia' jb) := Lib.hid ⟨by omega, Hia'.out, Hjb'.out, by rw [chgs_same (by rw [HCq.out, HPq.out, hcc]), HL3.out]; exact HM.out⟩
            have hcb : (cq != xc) = false := by rw [hcc]; simp
            clear HM
            go_wp2
            go_roundw
            case rel => exact ⟨q + 1, ia', jb, lan, hjb, by go_num, by go_num, HN⟩
            case measure => have := Hms.out; simp [intOf]; omega
          · have hcb : (cq == xc) = false := by simpa using hcc
            have HO := Lib.hid (HM.out.1.alloc (.cells #[.int .i64 (a : Int)] 3))
            have HQ := Lib.hid (rds_one wr (a : Int))
            have HLt := Lib.hid (fun g (hg : (Value.slice A1 L.length c1).ownBlock = some g) => World.ownsRow.lt HM.out.1 g hg)
            have HAl := Lib.hid (HM.out.2.alloc hsz (.cells #[.int .i64 (a : Int)] 3))
            go_wp2_with (at_builtin; refine wpList_app rfl (.tmp 51) (.tmp 55) rfl w.heap.size _ _ rfl HO.out (some ⟨wr.heap.size, 0, none⟩) 1 1 _ [(a : Int)] rfl rfl HQ.out (by simp; omega) (by simp; omega) ?_; intro v3 w3 hO3 hG3)
            have HN : Hid (Mrg GA GB GC w w.heap.size w3 v3 (q + 1) ia' jb) := Lib.hid ⟨by omega, Hia'.out, Hjb'.out, by rw [chgs_new (by rw [HCq.out, HPq.out]; exact hcc), HL3.out, Hqa.out]; exact hO3, HAl.out.grown hG3 HAl.out.size (fun g hg => (HLt.out g hg).1)⟩
            clear hO3 hG3 HO HQ HLt HAl HM
            go_wp2
            go_roundw
            case rel => exact ⟨q + 1, ia', jb, lan, hjb, by go_num, by go_num, HN⟩
            case measure => have := Hms.out; simp [intOf]; omega
      · subst ho
        have hqa : (q : Int) = (a : Int) := by have := Hq.out; omega
        rw [if_pos (by omega)] at la
        rw [if_pos (by omega)] at lb
        have ea : (ia : Int) + 1 = (ia' : Int) := by omega
        have eb : (jb : Int) + 1 = (jb' : Int) := by omega
        have hmz : ia ≤ n ∧ jb ≤ m := ⟨hia, hjb⟩
        have hms : (n - ia') + (m - jb') < (n - ia) + (m - jb) := by omega
        have Hms := Lib.hid hms
        have Hqa := Lib.hid hqa
        have hab : 0 ≤ (a : Int) ∧ (a : Int) ≤ 272 := by omega
        clear la lb hqa hms key hmz hq hqI
        have hcd : (ia : Int) < (n : Int) := by omega
        clear hcond
        all_goals
          go_wp2_with fail
          refine (markAt_any A c n ia (chgs GA 272) (a : Int) wr Hn.out hRA.out hia HRa.out).mono ?_
          rintro e w2 ⟨rfl, e2⟩; subst w2
          go_wp2_with fail
          refine (markAt_any A' c' m jb (chgs GB 272) (a : Int) wr Hm.out hRB.out hjb HRb.out).mono ?_
          rintro e w2 ⟨rfl, e2⟩; subst w2
          go_wp2_with fail
          refine (HF2.out wr).mono ?_
          rintro e w2 ⟨rfl, e2⟩; subst w2
          by_cases hcc : cq = xc
          · have HN : Hid (Mrg GA GB GC w w.heap.size wr (.slice A1 L.length c1) (q + 1) ia' jb') := Lib.hid ⟨by omega, Hia'.out, Hjb'.out, by rw [chgs_same (by rw [HCq.out, HPq.out, hcc]), HL3.out]; exact HM.out⟩
            have hcb : (cq != xc) = false := by rw [hcc]; simp
            clear HM
            go_wp2
            go_roundw
            case rel => exact ⟨q + 1, ia', jb', lan, lbn, by go_num, by go_num, HN⟩
            case measure => have := Hms.out; simp [intOf]; omega
          · have hcb : (cq == xc) = false := by simpa using hcc
            have HO := Lib.hid (HM.out.1.alloc (.cells #[.int .i64 (a : Int)] 3))
            have HQ := Lib.hid (rds_one wr (a : Int))
            have HLt := Lib.hid (fun g (hg : (Value.slice A1 L.length c1).ownBlock = some g) => World.ownsRow.lt HM.out.1 g hg)
            have HAl := Lib.hid (HM.out.2.alloc hsz (.cells #[.int .i64 (a : Int)] 3))
            go_wp2_with (at_builtin; refine wpList_app rfl (.tmp 51) (.tmp 55) rfl w.heap.size _ _ rfl HO.out (some ⟨wr.heap.size, 0, none⟩) 1 1 _ [(a : Int)] rfl rfl HQ.out (by simp; omega) (by simp; omega) ?_; intro v3 w3 hO3 hG3)
            have HN : Hid (Mrg GA GB GC w w.heap.size w3 v3 (q + 1) ia' jb') := Lib.hid ⟨by omega, Hia'.out, Hjb'.out, by rw [chgs_new (by rw [HCq.out, HPq.out]; exact hcc), HL3.out, Hqa.out]; exact hO3, HAl.out.grown hG3 HAl.out.size (fun g hg => (HLt.out g hg).1)⟩
            clear hO3 hG3 HO HQ HLt HAl HM
            go_wp2
            go_roundw
            case rel => exact ⟨q + 1, ia', jb', lan, lbn, by go_num, by go_num, HN⟩
            case measure => have := Hms.out; simp [intOf]; omega
      · have l1 : ¬ (a : Int) ≤ (b : Int) := by omega
        have l2 : (b : Int) ≤ (a : Int) := by omega
        have l3 : ¬ (a : Int) < (b : Int) := by omega
        have l4 : (b : Int) < (a : Int) := by omega
        have hqa : (q : Int) = (b : Int) := by have := Hq.out; omega
        rw [if_neg (by omega)] at la
        rw [if_pos (by omega)] at lb
        have eb : (jb : Int) + 1 = (jb' : Int) := by omega
        obtain rfl : ia = ia' := by omega
        clear lan
        have hmz : ia ≤ n ∧ jb ≤ m := ⟨hia, hjb⟩
        have hms : (n - ia) + (m - jb') < (n - ia) + (m - jb) := by omega
        have Hms := Lib.hid hms
        have Hqa := Lib.hid hqa
        have hab : 0 ≤ (b : Int) ∧ (b : Int) ≤ 272 := by omega
        clear la lb hqa hms key hmz hq hqI
        rcases hcond with hcd | ⟨hcd, hcd2⟩
        all_goals
          go_wp2_with fail
          refine (markAt_any A c n ia (chgs GA 272) (a : Int) wr Hn.out hRA.out hia HRa.out).mono ?_
          rintro e w2 ⟨rfl, e2⟩; subst w2
          go_wp2_with fail
          refine (markAt_any A' c' m jb (chgs GB 272) (b : Int) wr Hm.out hRB.out hjb HRb.out).mono ?_
          rintro e w2 ⟨rfl, e2⟩; subst w2
          go_wp2_with fail
          refine (HF2.out wr).mono ?_
          rintro e w2 ⟨rfl, e2⟩; subst w2
          by_cases hcc : cq = xc
          · have HN : Hid (Mrg GA GB GC w w.heap.size wr (.slice A1 L.length c1) (q + 1) ia jb') := Lib.hid ⟨by omega, Hia'.out, Hjb'.out, by rw [chgs_same (by rw [HCq.out, HPq.out, hcc]), HL3.out]; exact HM.out⟩
            have hcb : (cq != xc) = false := by rw [hcc]; simp
            clear HM
            go_wp2
            go_roundw
            case rel => exact ⟨q + 1, ia, jb', hia, lbn, by go_num, by go_num, HN⟩
            case measure => have := Hms.out; simp [intOf]; omega
          · have hcb : (cq == xc) = false := by simpa using hcc
            have HO := Lib.hid (HM.out.1.alloc (.cells #[.int .i64 (b : Int)] 3))
            have HQ := Lib.hid (rds_one wr (b : Int))
            have HLt := Lib.hid (fun g (hg : (Value.slice A1 L.length c1).ownBlock = some g) => World.ownsRow.lt HM.out.1 g hg)
            have HAl := Lib.hid (HM.out.2.alloc hsz (.cells #[.int .i64 (b : Int)] 3))
            go_wp2_with (at_builtin; refine wpList_app rfl (.tmp 51) (.tmp 55) rfl w.heap.size _ _ rfl HO.out (some ⟨wr.heap.size, 0, none⟩) 1 1 _ [(b : Int)] rfl rfl HQ.out (by simp; omega) (by simp; omega) ?_; intro v3 w3 hO3 hG3)
            have HN : Hid (Mrg GA GB GC w w.heap.size w3 v3 (q + 1) ia jb') := Lib.hid ⟨by omega, Hia'.out, Hjb'.out, by rw [chgs_new (by rw [HCq.out, HPq.out]; exact hcc), HL3.out, Hqa.out]; exact hO3, HAl.out.grown hG3 HAl.out.size (fun g hg => (HLt.out g hg).1)⟩
            clear hO3 hG3 HO HQ HLt HAl HM
            go_wp2
            go_roundw
            case rel => exact ⟨q + 1, ia, jb', hia, lbn, by go_num, by go_num, HN⟩
            case measure => have := Hms.out; simp [intOf]; omega
    · have ea : a = 272 := by omega
      have eb : b = 272 := by omega
      have hni := hga.1 ea
      have hnj := hgb.1 eb
      subst ea eb
      have hE := merge_end (rule := krule k) HC.out (krule_ff k) hp ha hb
      rw [← hE] at hM
      obtain ⟨A1, c1, rfl, _⟩ := hM.1.slice
      have HM := Lib.hid hM
      have h1 : ¬ (ia : Int) < (n : Int) := by omega
      have h2 : ¬ (jb : Int) < (m : Int) := by omega
      clear hI hM hga hgb ei ej hE ha hb hni hnj
      go_wp2
      go_ret
      exact ⟨_, rfl, HM.out.1, HM.out.2⟩
end Go.Proofs.YtbjgjjhfnaiocaaDoor
