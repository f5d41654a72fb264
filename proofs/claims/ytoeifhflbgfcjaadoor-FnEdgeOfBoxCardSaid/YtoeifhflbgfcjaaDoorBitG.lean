/- Rows of bits that grow and shrink. -/
import Derived.Test.YtoeifhflbgfcjaaDoorBitV
import Derived.Deep.RegionHeld3
import Derived.Deep.WholeRow
import Derived.Laws.CopyOwn
namespace Go.Proofs.YtoeifhflbgfcjaaDoor
open Go.RowKit
set_option linter.unusedSimpArgs false
set_option linter.unusedVariables false
set_option maxRecDepth 100000

theorem btC_one (B : Nat → Nat) : (btC B).all (·.oneCell') = true := by simp [Value.oneCell']
theorem bt_info : (Tryd.prog.info? 62).map (·.size) = some 16 := by kernel_rfl
/-- A whole row of bits, loaded. -/
theorem bt_hy {a : Act} {o : Oper} {x : Operand} {w : World} {b : Nat} {B : Nat → Nat} (ho : o.op = .load 62 x) (hx : a.eval x = .pointer (some ⟨b, 0, none⟩)) (h : Bx w b 62 (btC B)) :
    Sem.run Tryd.prog (execOp a.eval o) w = .ok (.value (.agg (btC B))) w := by
  unfold execOp
  simp only [ho, hx, Instr.loadAt, Instr.sureAddr, Sem.run_bind, Sem.run_pure, Result.andThen_ok, run_loadVar_row w b 62 62 (btC B) (0, 0) _ h Tryd.underlying62 rfl bt_info]
set_option maxHeartbeats 16000000 in
theorem i_grown (B : Nat → Nat) (hB : ∀ y, B y < 65536) (w : World) :
    Calls Tryd.prog 54 #[.agg (btC B)] w fun e w' => e = .returned (.agg (btC (gwB B 16))) ∧ Below w.heap.size w w' := by
  obtain ⟨u, hu⟩ : ∃ u, u = ((w.alloc (.cells (btC B) 62)).alloc (.cells #[.int .u16 0, .int .u16 0, .int .u16 0, .int .u16 0, .int .u16 0, .int .u16 0, .int .u16 0, .int .u16 0, .int .u16 0, .int .u16 0, .int .u16 0, .int .u16 0, .int .u16 0, .int .u16 0, .int .u16 0, .int .u16 0] 62)).alloc (.cells #[.int .u16 0, .int .u16 0, .int .u16 0, .int .u16 0, .int .u16 0, .int .u16 0, .int .u16 0, .int .u16 0, .int .u16 0, .int .u16 0, .int .u16 0, .int .u16 0, .int .u16 0, .int .u16 0, .int .u16 0, .int .u16 0] 62) := ⟨_, rfl⟩
  obtain ⟨b1, hb1⟩ : ∃ b, b = w.heap.size := ⟨_, rfl⟩
  obtain ⟨b2, hb2⟩ : ∃ b, b = w.heap.size + 1 := ⟨_, rfl⟩
  obtain ⟨b3, hb3⟩ : ∃ b, b = w.heap.size + 1 + 1 := ⟨_, rfl⟩
  have HI0 : Hid (Bx u b3 62 (btC (gwB B 0)) ∧ Bx u b2 62 (btC fun _ => 0) ∧ Bx u b1 62 (btC B) ∧ Below w.heap.size w u) := Lib.hid (by
    rw [hu, hb1, hb2, hb3]
    have e1 : Bx ((w.alloc (.cells (btC B) 62)).alloc (.cells #[.int .u16 0, .int .u16 0, .int .u16 0, .int .u16 0, .int .u16 0, .int .u16 0, .int .u16 0, .int .u16 0, .int .u16 0, .int .u16 0, .int .u16 0, .int .u16 0, .int .u16 0, .int .u16 0, .int .u16 0, .int .u16 0] 62)) (w.heap.size + 1) 62 #[.int .u16 0, .int .u16 0, .int .u16 0, .int .u16 0, .int .u16 0, .int .u16 0, .int .u16 0, .int .u16 0, .int .u16 0, .int .u16 0, .int .u16 0, .int .u16 0, .int .u16 0, .int .u16 0, .int .u16 0, .int .u16 0] := by simpa using Bx.new (w.alloc (.cells (btC B) 62)) 62 #[.int .u16 0, .int .u16 0, .int .u16 0, .int .u16 0, .int .u16 0, .int .u16 0, .int .u16 0, .int .u16 0, .int .u16 0, .int .u16 0, .int .u16 0, .int .u16 0, .int .u16 0, .int .u16 0, .int .u16 0, .int .u16 0]
    have e2 : Bx (((w.alloc (.cells (btC B) 62)).alloc (.cells #[.int .u16 0, .int .u16 0, .int .u16 0, .int .u16 0, .int .u16 0, .int .u16 0, .int .u16 0, .int .u16 0, .int .u16 0, .int .u16 0, .int .u16 0, .int .u16 0, .int .u16 0, .int .u16 0, .int .u16 0, .int .u16 0] 62)).alloc (.cells #[.int .u16 0, .int .u16 0, .int .u16 0, .int .u16 0, .int .u16 0, .int .u16 0, .int .u16 0, .int .u16 0, .int .u16 0, .int .u16 0, .int .u16 0, .int .u16 0, .int .u16 0, .int .u16 0, .int .u16 0, .int .u16 0] 62)) (w.heap.size + 1 + 1) 62 #[.int .u16 0, .int .u16 0, .int .u16 0, .int .u16 0, .int .u16 0, .int .u16 0, .int .u16 0, .int .u16 0, .int .u16 0, .int .u16 0, .int .u16 0, .int .u16 0, .int .u16 0, .int .u16 0, .int .u16 0, .int .u16 0] := by simpa using Bx.new ((w.alloc (.cells (btC B) 62)).alloc (.cells #[.int .u16 0, .int .u16 0, .int .u16 0, .int .u16 0, .int .u16 0, .int .u16 0, .int .u16 0, .int .u16 0, .int .u16 0, .int .u16 0, .int .u16 0, .int .u16 0, .int .u16 0, .int .u16 0, .int .u16 0, .int .u16 0] 62)) 62 #[.int .u16 0, .int .u16 0, .int .u16 0, .int .u16 0, .int .u16 0, .int .u16 0, .int .u16 0, .int .u16 0, .int .u16 0, .int .u16 0, .int .u16 0, .int .u16 0, .int .u16 0, .int .u16 0, .int .u16 0, .int .u16 0]
    exact ⟨e2, e1.alloc _, ((Bx.new w _ _).alloc _).alloc _, (((Below.refl _ _).alloc (Nat.le_refl _) _).alloc (by simp) _).alloc (by simp; omega) _⟩)
  have HU := Lib.hid hu
  have Hb1 := Lib.hid hb1
  have Hb2 := Lib.hid hb2
  have Hb3 := Lib.hid hb3
  clear hu hb1 hb2 hb3
  go_enter Tryd.func54, Tryd.ntmps54
  go_wp2
  rw [← HU.out, ← Hb3.out, ← Hb2.out, ← Hb1.out]
  clear HU
  go_loopw [7] (fun i wr => ∃ k : Nat, k ≤ 16 ∧ i = .int .i64 (k : Int) ∧ Hid (Bx wr b3 62 (btC (gwB B k)) ∧ Bx wr b2 62 (btC fun _ => 0) ∧ Bx wr b1 62 (btC B) ∧ Below w.heap.size w wr)) (fun i _ => 16 - (intOf i).toNat)
  case atStart => exact ⟨0, Nat.zero_le _, rfl, HI0⟩
  case round =>
    clear HI0
    obtain ⟨k, hk, rfl, hI⟩ := hrel
    rename World => wr
    by_cases hlt : k < 16
    · have hkI : (k : Int) < 16 := by omega
      have hix := bt_index B wr k hlt
      obtain ⟨r, hr⟩ : ∃ r, r = B k := ⟨_, rfl⟩
      have hrl : r < 65536 := by rw [hr]; exact hB k
      rw [← hr] at hix
      have Hr := Lib.hid hr
      clear hr
      go_wp2
      clear hix
      have Hv : Hid ((bits BinOp.or IntKind.u16 (bits BinOp.or IntKind.u16 (bits BinOp.or IntKind.u16 (bits BinOp.or IntKind.u16 (r : Int) (IntKind.u16.wrap ((r : Int) * 2))) ((r : Int) / 2)) ((bRow B ((k : Int) - 1) : Nat) : Int)) ((bRow B ((k : Int) + 1) : Nat) : Int)) = ((gwV B k : Nat) : Int)) := Lib.hid (by
        have hr1 : r * 2 % 65536 < 65536 := Nat.mod_lt _ (by omega)
        have hr2 : r / 2 < 65536 := Nat.lt_of_le_of_lt (Nat.div_le_self _ _) hrl
        have hq1 : IntKind.u16.wrap ((r : Int) * 2) = ((r * 2 % 65536 : Nat) : Int) := by rw [IntKind.wrap_u16]; omega
        have hq2 : (r : Int) / 2 = ((r / 2 : Nat) : Int) := by omega
        have hd : bRow B ((k : Int) - 1) < 65536 := bRowLt hB _
        have hu : bRow B ((k : Int) + 1) < 65536 := bRowLt hB _
        rw [hq1, hq2]
        rw [or16 hrl hr1, or16 (or_lt16 hrl hr1) hr2, or16 (or_lt16 (or_lt16 hrl hr1) hr2) hd, or16 (or_lt16 (or_lt16 (or_lt16 hrl hr1) hr2) hd) hu]
        unfold gwV
        rw [← Hr.out])
      have H3 : Hid (Bx wr.drew b3 62 (btC (gwB B k))) := Lib.hid hI.out.1
      have H2 : Hid (Bx wr.drew b2 62 (btC fun _ => 0)) := Lib.hid hI.out.2.1
      have H1 : Hid (Bx wr.drew b1 62 (btC B)) := Lib.hid hI.out.2.2.1
      have HBd : Hid (Below w.heap.size w wr.drew) := Lib.hid hI.out.2.2.2.drew
      have l1 := hI.out.2.2.1.lt
      clear hI
      have hw1 : IntKind.i64.wrap ((k : Int) - 1) = (k : Int) - 1 := IntWalk.i64_in _ (by omega)
      have hw2 : IntKind.i64.wrap ((k : Int) + 1) = (k : Int) + 1 := IntWalk.i64_in _ (by omega)
      refine wp_region_held_drew (S := (fun w' => Bx w' b1 62 (btC B))) (by kernel_rfl) (by exact H1.out) (fun hHeld => ?_)
      refine' wpAnyH_take (i := 0) (oi := _) (v := _) ?hi1 (by kernel_rfl) (by kernel_rfl) (by kernel_rfl) ?hq1 (Or.inl ⟨?hw1, ?hy1⟩) (by assumption) ?rest1
      case hi1 => (simp only [List.getElem?_toArray, List.getElem?_cons_succ, List.getElem?_cons_zero]; rfl)
      case hq1 => exact fun _ _ _ h => h
      case hw1 => rfl
      case hy1 => (intro wq hSw; (try dsimp only at hSw); go_simp; (try with_reducible rfl))
      (try simp only [Act.put, List.setIfInBounds_toArray, List.set_cons_zero, List.set_cons_succ])
      refine' wpAnyH_take (i := 1) (oi := _) (v := _) ?hi2 (by kernel_rfl) (by kernel_rfl) (by kernel_rfl) ?hq2 (Or.inl ⟨?hw2, ?hy2⟩) (by assumption) ?rest2
      case hi2 => (simp only [List.getElem?_toArray, List.getElem?_cons_succ, List.getElem?_cons_zero]; rfl)
      case hq2 => exact fun _ _ _ h => h
      case hw2 => rfl
      case hy2 => (intro wq hSw; (try dsimp only at hSw); go_simp; (try with_reducible rfl))
      (try simp only [Act.put, List.setIfInBounds_toArray, List.set_cons_zero, List.set_cons_succ])
      refine' wpAnyH_take (i := 2) (oi := _) (v := _) ?hi3 (by kernel_rfl) (by kernel_rfl) (by kernel_rfl) ?hq3 (Or.inl ⟨?hw3, ?hy3⟩) (by assumption) ?rest3
      case hi3 => (simp only [List.getElem?_toArray, List.getElem?_cons_succ, List.getElem?_cons_zero]; rfl)
      case hq3 => exact fun _ _ _ h => h
      case hw3 => rfl
      case hy3 => (intro wq hSw; (try dsimp only at hSw); go_simp; (try with_reducible rfl))
      (try simp only [Act.put, List.setIfInBounds_toArray, List.set_cons_zero, List.set_cons_succ])
      refine' wpAnyH_take (i := 3) (oi := _) (v := _) ?hi4 (by kernel_rfl) (by kernel_rfl) (by kernel_rfl) ?hq4 (Or.inl ⟨?hw4, ?hy4⟩) (by assumption) ?rest4
      case hi4 => (simp only [List.getElem?_toArray, List.getElem?_cons_succ, List.getElem?_cons_zero]; rfl)
      case hq4 => exact fun _ _ _ h => h
      case hw4 => rfl
      case hy4 => (intro wq hSw; (try dsimp only at hSw); go_simp; (try with_reducible rfl))
      (try simp only [Act.put, List.setIfInBounds_toArray, List.set_cons_zero, List.set_cons_succ])
      refine' wpAnyH_take (i := 4) (oi := _) (v := _) ?hi5 (by kernel_rfl) (by kernel_rfl) (by kernel_rfl) ?hq5 (Or.inl ⟨?hw5, ?hy5⟩) (by assumption) ?rest5
      case hi5 => (simp only [List.getElem?_toArray, List.getElem?_cons_succ, List.getElem?_cons_zero]; rfl)
      case hq5 => exact fun _ _ _ h => h
      case hw5 => rfl
      case hy5 => (intro wq hSw; (try dsimp only at hSw); go_simp; (try with_reducible rfl))
      (try simp only [Act.put, List.setIfInBounds_toArray, List.set_cons_zero, List.set_cons_succ])
      refine' wpAnyH_take (i := 5) (oi := _) (v := _) ?hi6 (by kernel_rfl) (by kernel_rfl) (by kernel_rfl) ?hq6 (Or.inl ⟨?hw6, ?hy6⟩) (by assumption) ?rest6
      case hi6 => (simp only [List.getElem?_toArray, List.getElem?_cons_succ, List.getElem?_cons_zero]; rfl)
      case hq6 => exact fun _ _ _ h => h
      case hw6 => rfl
      case hy6 => (intro wq hSw; (try dsimp only at hSw); go_simp; (try with_reducible rfl))
      (try simp only [Act.put, List.setIfInBounds_toArray, List.set_cons_zero, List.set_cons_succ])
      refine' wpAnyH_take (i := 6) (oi := _) (v := _) ?hi7 (by kernel_rfl) (by kernel_rfl) (by kernel_rfl) ?hq7 (Or.inl ⟨?hw7, ?hy7⟩) (by assumption) ?rest7
      case hi7 => (simp only [List.getElem?_toArray, List.getElem?_cons_succ, List.getElem?_cons_zero]; rfl)
      case hq7 => exact fun _ _ _ h => h
      case hw7 => rfl
      case hy7 => (intro wq hSw; (try dsimp only at hSw); go_simp; (try with_reducible rfl))
      (try simp only [Act.put, List.setIfInBounds_toArray, List.set_cons_zero, List.set_cons_succ])
      refine' wpAnyH_take (i := 7) (oi := _) (v := _) ?hi8 (by kernel_rfl) (by kernel_rfl) (by kernel_rfl) ?hq8 (Or.inl ⟨?hw8, ?hy8⟩) (by assumption) ?rest8
      case hi8 => (simp only [List.getElem?_toArray, List.getElem?_cons_succ, List.getElem?_cons_zero]; rfl)
      case hq8 => exact fun _ _ _ h => h
      case hw8 => rfl
      case hy8 => (intro wq hSw; (try dsimp only at hSw); go_simp; (try with_reducible rfl))
      (try simp only [Act.put, List.setIfInBounds_toArray, List.set_cons_zero, List.set_cons_succ])
      refine' wpAnyH_take (i := 8) (oi := _) (v := _) ?hi9 (by kernel_rfl) (by kernel_rfl) (by kernel_rfl) ?hq9 (Or.inl ⟨?hw9, ?hy9⟩) (by assumption) ?rest9
      case hi9 => (simp only [List.getElem?_toArray, List.getElem?_cons_succ, List.getElem?_cons_zero]; rfl)
      case hq9 => exact fun _ _ _ h => h
      case hw9 => rfl
      case hy9 => (intro wq hSw; (try dsimp only at hSw); refine bt_hy (x := .tmp 1) ?_ ?_ hSw <;> rfl)
      (try simp only [Act.put, List.setIfInBounds_toArray, List.set_cons_zero, List.set_cons_succ])
      refine' wpAnyH_take (i := 9) (oi := _) (v := _) ?hi10 (by kernel_rfl) (by kernel_rfl) (by kernel_rfl) ?hq10 (Or.inl ⟨?hw10, ?hy10⟩) (by assumption) ?rest10
      case hi10 => (simp only [List.getElem?_toArray, List.getElem?_cons_succ, List.getElem?_cons_zero]; rfl)
      case hq10 => exact fun _ _ _ h => h
      case hw10 => rfl
      case hy10 => (intro wq hSw; (try dsimp only at hSw); go_simp; (try with_reducible rfl))
      (try simp only [Act.put, List.setIfInBounds_toArray, List.set_cons_zero, List.set_cons_succ])
      refine' wpAnyH_take (i := 10) (oi := _) (v := _) ?hi11 (by kernel_rfl) (by kernel_rfl) (by kernel_rfl) ?hq11 (Or.inl ⟨?hw11, ?hy11⟩) (by assumption) ?rest11
      case hi11 => (simp only [List.getElem?_toArray, List.getElem?_cons_succ, List.getElem?_cons_zero]; rfl)
      case hq11 => exact fun _ _ _ h => h
      case hw11 => rfl
      case hy11 => (intro wq hSw; (try dsimp only at hSw); go_simp; (try with_reducible rfl))
      (try simp only [Act.put, List.setIfInBounds_toArray, List.set_cons_zero, List.set_cons_succ])
      refine' wpAnyH_take (i := 13) (oi := _) (v := _) ?hi12 (by kernel_rfl) (by kernel_rfl) (by kernel_rfl) ?hq12 (Or.inl ⟨?hw12, ?hy12⟩) (by assumption) ?rest12
      case hi12 => (simp only [List.getElem?_toArray, List.getElem?_cons_succ, List.getElem?_cons_zero]; rfl)
      case hq12 => exact fun _ _ _ h => h
      case hw12 => rfl
      case hy12 => (intro wq hSw; (try dsimp only at hSw); refine bt_hy (x := .tmp 1) ?_ ?_ hSw <;> rfl)
      (try simp only [Act.put, List.setIfInBounds_toArray, List.set_cons_zero, List.set_cons_succ])
      refine' wpAnyH_take (i := 14) (oi := _) (v := _) ?hi13 (by kernel_rfl) (by kernel_rfl) (by kernel_rfl) ?hq13 (Or.inl ⟨?hw13, ?hy13⟩) (by assumption) ?rest13
      case hi13 => (simp only [List.getElem?_toArray, List.getElem?_cons_succ, List.getElem?_cons_zero]; rfl)
      case hq13 => exact fun _ _ _ h => h
      case hw13 => rfl
      case hy13 => (intro wq hSw; (try dsimp only at hSw); go_simp; (try with_reducible rfl))
      (try simp only [Act.put, List.setIfInBounds_toArray, List.set_cons_zero, List.set_cons_succ])
      refine' wpAnyH_take (i := 15) (oi := _) (v := _) ?hi14 (by kernel_rfl) (by kernel_rfl) (by kernel_rfl) ?hq14 (Or.inl ⟨?hw14, ?hy14⟩) (by assumption) ?rest14
      case hi14 => (simp only [List.getElem?_toArray, List.getElem?_cons_succ, List.getElem?_cons_zero]; rfl)
      case hq14 => exact fun _ _ _ h => h
      case hw14 => rfl
      case hy14 => (intro wq hSw; (try dsimp only at hSw); go_simp; (try with_reducible rfl))
      (try simp only [Act.put, List.setIfInBounds_toArray, List.set_cons_zero, List.set_cons_succ])
      refine wpAnyH_ready (rs := [11]) (by kernel_rfl) (by simp) ?_
      refine' AllReadyH.cons (o := _) ?hi15 (fun K hK => ?rest15) AllReadyH.nil
      case hi15 => (simp only [List.getElem?_toArray, List.getElem?_cons_succ, List.getElem?_cons_zero]; rfl)
      go_simp
      go_at_call 71
      refine (i_row B ((k : Int) - 1) wr.drew).mono ?_
      rintro e w5 ⟨rfl, hb⟩
      have H3_5 := Lib.hid (show Bx w5 b3 62 (btC (gwB B k)) from (hb.block b3 H3.out.lt).trans H3.out)
      have H2_5 := Lib.hid (show Bx w5 b2 62 (btC fun _ => 0) from (hb.block b2 H2.out.lt).trans H2.out)
      have H1_5 := Lib.hid (show Bx w5 b1 62 (btC B) from (hb.block b1 H1.out.lt).trans H1.out)
      have HB5 := Lib.hid (HBd.out.trans (hb.mono HBd.out.size))
      clear hb H3 H2 H1 HBd
      go_wp2_with fail
      refine hK.out _ _ (by (try dsimp only); exact H1_5.out) (fun hHeld => ?_)
      clear hK K
      (try simp only [Act.put, List.setIfInBounds_toArray, List.set_cons_zero, List.set_cons_succ])
      refine' wpAnyH_take (i := 12) (oi := _) (v := _) ?hi16 (by kernel_rfl) (by kernel_rfl) (by kernel_rfl) ?hq16 (Or.inl ⟨?hw16, ?hy16⟩) (by assumption) ?rest16
      case hi16 => (simp only [List.getElem?_toArray, List.getElem?_cons_succ, List.getElem?_cons_zero]; rfl)
      case hq16 => exact fun _ _ _ h => h
      case hw16 => rfl
      case hy16 => (intro wq hSw; (try dsimp only at hSw); go_simp; (try with_reducible rfl))
      (try simp only [Act.put, List.setIfInBounds_toArray, List.set_cons_zero, List.set_cons_succ])
      refine wpAnyH_ready (rs := [16]) (by kernel_rfl) (by simp) ?_
      refine' AllReadyH.cons (o := _) ?hi17 (fun K hK => ?rest17) AllReadyH.nil
      case hi17 => (simp only [List.getElem?_toArray, List.getElem?_cons_succ, List.getElem?_cons_zero]; rfl)
      go_simp
      go_at_call 71
      refine (i_row B ((k : Int) + 1) w5).mono ?_
      rintro e w6 ⟨rfl, hb⟩
      have H3_6 := Lib.hid (show Bx w6 b3 62 (btC (gwB B k)) from (hb.block b3 H3_5.out.lt).trans H3_5.out)
      have H2_6 := Lib.hid (show Bx w6 b2 62 (btC fun _ => 0) from (hb.block b2 H2_5.out.lt).trans H2_5.out)
      have H1_6 := Lib.hid (show Bx w6 b1 62 (btC B) from (hb.block b1 H1_5.out.lt).trans H1_5.out)
      have HB6 := Lib.hid (HB5.out.trans (hb.mono HB5.out.size))
      clear hb H3_5 H2_5 H1_5 HB5
      have HN : Hid (Bx (w6.setCell ⟨b3, k, none⟩ (.int .u16 ((gwV B k : Nat) : Int))) b3 62 (btC (gwB B (k + 1))) ∧ Bx (w6.setCell ⟨b3, k, none⟩ (.int .u16 ((gwV B k : Nat) : Int))) b2 62 (btC fun _ => 0) ∧ Bx (w6.setCell ⟨b3, k, none⟩ (.int .u16 ((gwV B k : Nat) : Int))) b1 62 (btC B) ∧ Below w.heap.size w (w6.setCell ⟨b3, k, none⟩ (.int .u16 ((gwV B k : Nat) : Int)))) := Lib.hid (by
        have h1 := Hb1.out
        have h2 := Hb2.out
        have h3 := Hb3.out
        refine ⟨?_, (heap_setCell_other w6 ⟨b3, k, none⟩ b2 _ (fun e => by have e2 : b2 = b3 := e; omega)).trans H2_6.out, (heap_setCell_other w6 ⟨b3, k, none⟩ b1 _ (fun e => by have e2 : b1 = b3 := e; omega)).trans H1_6.out, HB6.out.setCell (show w.heap.size ≤ b3 by omega) _⟩
        rw [← gwB_up]
        exact bx_up H3_6.out hlt _)
      have hc3 := bx_cell H3_6.out hlt
      have hf3 : w6.frozen? ⟨b3, k, none⟩ = false := frozen_of_row w6 b3 k _ _ H3_6.out
      have hl3 := H3_6.out.lt
      go_wp2_with fail
      refine hK.out _ _ (by (try dsimp only); exact H1_6.out) (fun hHeld => ?_)
      clear hK K
      (try simp only [Act.put, List.setIfInBounds_toArray, List.set_cons_zero, List.set_cons_succ])
      refine' wpAnyH_take (i := 17) (oi := _) (v := _) ?hi18 (by kernel_rfl) (by kernel_rfl) (by kernel_rfl) ?hq18 (Or.inl ⟨?hw18, ?hy18⟩) (by assumption) ?rest18
      case hi18 => (simp only [List.getElem?_toArray, List.getElem?_cons_succ, List.getElem?_cons_zero]; rfl)
      case hq18 => exact fun _ _ _ h => h
      case hw18 => rfl
      case hy18 => (intro wq hSw; (try dsimp only at hSw); go_simp; (try with_reducible rfl))
      (try simp only [Act.put, List.setIfInBounds_toArray, List.set_cons_zero, List.set_cons_succ])
      refine' wpAnyH_take (i := 18) (oi := _) (v := _) ?hi19 (by kernel_rfl) (by kernel_rfl) (by kernel_rfl) ?hq19 (Or.inl ⟨?hw19, ?hy19⟩) (by assumption) ?rest19
      case hi19 => (simp only [List.getElem?_toArray, List.getElem?_cons_succ, List.getElem?_cons_zero]; rfl)
      case hq19 => exact fun _ _ _ h => h
      case hw19 => rfl
      case hy19 => (intro wq hSw; (try dsimp only at hSw); go_simp; (try with_reducible rfl))
      (try simp only [Act.put, List.setIfInBounds_toArray, List.set_cons_zero, List.set_cons_succ])
      refine wpAnyH_ready (rs := [19]) (by kernel_rfl) (by simp) ?_
      refine' AllReadyH.cons (o := _) ?hi20 (fun K hK => ?rest20) AllReadyH.nil
      case hi20 => (simp only [List.getElem?_toArray, List.getElem?_cons_succ, List.getElem?_cons_zero]; rfl)
      go_simp
      rw [Hv.out]
      refine hK.out _ _ (by (try dsimp only); exact HN.out.2.2.1) (fun hHeld => ?_)
      clear hK K
      (try simp only [Act.put, List.setIfInBounds_toArray, List.set_cons_zero, List.set_cons_succ])
      refine wpAnyH_done (by kernel_rfl) ?_ _
      go_wp2
      go_roundw
      case rel => exact ⟨k + 1, by omega, by go_num, HN⟩
      case measure => simp [intOf]; omega
    · obtain rfl : k = 16 := by omega
      have hkI : ¬ ((16 : Nat) : Int) < 16 := by omega
      obtain ⟨X, hX⟩ : ∃ X, X = gwB B 16 := ⟨_, rfl⟩
      rw [← hX] at hI
      have H1 := Lib.hid hI.out.1
      have H2 := Lib.hid hI.out.2.1
      have HR2 : Hid (Bx (wr.setRow b2 (btC X)) b2 62 (btC X)) := Lib.hid (setRow_heap wr b2 _ _ _ _ H2.out)
      have HE : Hid (Below w.heap.size w (wr.setRow b2 (btC X))) := Lib.hid (below_setRow hI.out.2.2.2 (by have := Hb2.out; omega) _)
      have HX := Lib.hid hX
      clear hI hX
      go_wp2_with (refine wpList_load_row rfl 62 _ rfl b3 rfl 62 (btC X) (0, 0) _ H1.out Tryd.underlying62 rfl bt_info ?_; refine wpList_store_row rfl 62 _ _ rfl b2 (btC X) rfl rfl 62 (btC fun _ => 0) H2.out bt_info rfl (btC_one _) ?_)
      exact bodyPost_ret (v := .agg (btC X)) (results_cell_row rfl _ _ b2 62 (btC X) (0, 0) _ rfl HR2.out Tryd.underlying62 rfl bt_info) rfl ⟨by rw [HX.out], HE.out⟩
set_option maxHeartbeats 16000000 in
theorem i_shrunk (B : Nat → Nat) (hB : ∀ y, B y < 65536) (w : World) :
    Calls Tryd.prog 51 #[.agg (btC B)] w fun e w' => e = .returned (.agg (btC (skB B 16))) ∧ Below w.heap.size w w' := by
  obtain ⟨u, hu⟩ : ∃ u, u = ((w.alloc (.cells (btC B) 62)).alloc (.cells #[.int .u16 0, .int .u16 0, .int .u16 0, .int .u16 0, .int .u16 0, .int .u16 0, .int .u16 0, .int .u16 0, .int .u16 0, .int .u16 0, .int .u16 0, .int .u16 0, .int .u16 0, .int .u16 0, .int .u16 0, .int .u16 0] 62)).alloc (.cells #[.int .u16 0, .int .u16 0, .int .u16 0, .int .u16 0, .int .u16 0, .int .u16 0, .int .u16 0, .int .u16 0, .int .u16 0, .int .u16 0, .int .u16 0, .int .u16 0, .int .u16 0, .int .u16 0, .int .u16 0, .int .u16 0] 62) := ⟨_, rfl⟩
  obtain ⟨b1, hb1⟩ : ∃ b, b = w.heap.size := ⟨_, rfl⟩
  obtain ⟨b2, hb2⟩ : ∃ b, b = w.heap.size + 1 := ⟨_, rfl⟩
  obtain ⟨b3, hb3⟩ : ∃ b, b = w.heap.size + 1 + 1 := ⟨_, rfl⟩
  have HI0 : Hid (Bx u b3 62 (btC (skB B 0)) ∧ Bx u b2 62 (btC fun _ => 0) ∧ Bx u b1 62 (btC B) ∧ Below w.heap.size w u) := Lib.hid (by
    rw [hu, hb1, hb2, hb3]
    have e1 : Bx ((w.alloc (.cells (btC B) 62)).alloc (.cells #[.int .u16 0, .int .u16 0, .int .u16 0, .int .u16 0, .int .u16 0, .int .u16 0, .int .u16 0, .int .u16 0, .int .u16 0, .int .u16 0, .int .u16 0, .int .u16 0, .int .u16 0, .int .u16 0, .int .u16 0, .int .u16 0] 62)) (w.heap.size + 1) 62 #[.int .u16 0, .int .u16 0, .int .u16 0, .int .u16 0, .int .u16 0, .int .u16 0, .int .u16 0, .int .u16 0, .int .u16 0, .int .u16 0, .int .u16 0, .int .u16 0, .int .u16 0, .int .u16 0, .int .u16 0, .int .u16 0] := by simpa using Bx.new (w.alloc (.cells (btC B) 62)) 62 #[.int .u16 0, .int .u16 0, .int .u16 0, .int .u16 0, .int .u16 0, .int .u16 0, .int .u16 0, .int .u16 0, .int .u16 0, .int .u16 0, .int .u16 0, .int .u16 0, .int .u16 0, .int .u16 0, .int .u16 0, .int .u16 0]
    have e2 : Bx (((w.alloc (.cells (btC B) 62)).alloc (.cells #[.int .u16 0, .int .u16 0, .int .u16 0, .int .u16 0, .int .u16 0, .int .u16 0, .int .u16 0, .int .u16 0, .int .u16 0, .int .u16 0, .int .u16 0, .int .u16 0, .int .u16 0, .int .u16 0, .int .u16 0, .int .u16 0] 62)).alloc (.cells #[.int .u16 0, .int .u16 0, .int .u16 0, .int .u16 0, .int .u16 0, .int .u16 0, .int .u16 0, .int .u16 0, .int .u16 0, .int .u16 0, .int .u16 0, .int .u16 0, .int .u16 0, .int .u16 0, .int .u16 0, .int .u16 0] 62)) (w.heap.size + 1 + 1) 62 #[.int .u16 0, .int .u16 0, .int .u16 0, .int .u16 0, .int .u16 0, .int .u16 0, .int .u16 0, .int .u16 0, .int .u16 0, .int .u16 0, .int .u16 0, .int .u16 0, .int .u16 0, .int .u16 0, .int .u16 0, .int .u16 0] := by simpa using Bx.new ((w.alloc (.cells (btC B) 62)).alloc (.cells #[.int .u16 0, .int .u16 0, .int .u16 0, .int .u16 0, .int .u16 0, .int .u16 0, .int .u16 0, .int .u16 0, .int .u16 0, .int .u16 0, .int .u16 0, .int .u16 0, .int .u16 0, .int .u16 0, .int .u16 0, .int .u16 0] 62)) 62 #[.int .u16 0, .int .u16 0, .int .u16 0, .int .u16 0, .int .u16 0, .int .u16 0, .int .u16 0, .int .u16 0, .int .u16 0, .int .u16 0, .int .u16 0, .int .u16 0, .int .u16 0, .int .u16 0, .int .u16 0, .int .u16 0]
    exact ⟨e2, e1.alloc _, ((Bx.new w _ _).alloc _).alloc _, (((Below.refl _ _).alloc (Nat.le_refl _) _).alloc (by simp) _).alloc (by simp; omega) _⟩)
  have HU := Lib.hid hu
  have Hb1 := Lib.hid hb1
  have Hb2 := Lib.hid hb2
  have Hb3 := Lib.hid hb3
  clear hu hb1 hb2 hb3
  go_enter Tryd.func51, Tryd.ntmps51
  go_wp2
  rw [← HU.out, ← Hb3.out, ← Hb2.out, ← Hb1.out]
  clear HU
  go_loopw [7] (fun i wr => ∃ k : Nat, k ≤ 16 ∧ i = .int .i64 (k : Int) ∧ Hid (Bx wr b3 62 (btC (skB B k)) ∧ Bx wr b2 62 (btC fun _ => 0) ∧ Bx wr b1 62 (btC B) ∧ Below w.heap.size w wr)) (fun i _ => 16 - (intOf i).toNat)
  case atStart => exact ⟨0, Nat.zero_le _, rfl, HI0⟩
  case round =>
    clear HI0
    obtain ⟨k, hk, rfl, hI⟩ := hrel
    rename World => wr
    by_cases hlt : k < 16
    · have hkI : (k : Int) < 16 := by omega
      have hix := bt_index B wr k hlt
      obtain ⟨r, hr⟩ : ∃ r, r = B k := ⟨_, rfl⟩
      have hrl : r < 65536 := by rw [hr]; exact hB k
      rw [← hr] at hix
      have Hr := Lib.hid hr
      clear hr
      go_wp2
      clear hix
      have Hv : Hid ((bits BinOp.and IntKind.u16 (bits BinOp.and IntKind.u16 (bits BinOp.and IntKind.u16 (bits BinOp.and IntKind.u16 (r : Int) (IntKind.u16.wrap ((r : Int) * 2))) ((r : Int) / 2)) ((bRow B ((k : Int) - 1) : Nat) : Int)) ((bRow B ((k : Int) + 1) : Nat) : Int)) = ((skV B k : Nat) : Int)) := Lib.hid (by
        have hr1 : r * 2 % 65536 < 65536 := Nat.mod_lt _ (by omega)
        have hr2 : r / 2 < 65536 := Nat.lt_of_le_of_lt (Nat.div_le_self _ _) hrl
        have hq1 : IntKind.u16.wrap ((r : Int) * 2) = ((r * 2 % 65536 : Nat) : Int) := by rw [IntKind.wrap_u16]; omega
        have hq2 : (r : Int) / 2 = ((r / 2 : Nat) : Int) := by omega
        have hd : bRow B ((k : Int) - 1) < 65536 := bRowLt hB _
        have hu : bRow B ((k : Int) + 1) < 65536 := bRowLt hB _
        rw [hq1, hq2]
        rw [and16 hrl hr1, and16 (and_lt16 hrl hr1) hr2, and16 (and_lt16 (and_lt16 hrl hr1) hr2) hd, and16 (and_lt16 (and_lt16 (and_lt16 hrl hr1) hr2) hd) hu]
        unfold skV
        rw [← Hr.out])
      have H3 : Hid (Bx wr.drew b3 62 (btC (skB B k))) := Lib.hid hI.out.1
      have H2 : Hid (Bx wr.drew b2 62 (btC fun _ => 0)) := Lib.hid hI.out.2.1
      have H1 : Hid (Bx wr.drew b1 62 (btC B)) := Lib.hid hI.out.2.2.1
      have HBd : Hid (Below w.heap.size w wr.drew) := Lib.hid hI.out.2.2.2.drew
      have l1 := hI.out.2.2.1.lt
      clear hI
      have hw1 : IntKind.i64.wrap ((k : Int) - 1) = (k : Int) - 1 := IntWalk.i64_in _ (by omega)
      have hw2 : IntKind.i64.wrap ((k : Int) + 1) = (k : Int) + 1 := IntWalk.i64_in _ (by omega)
      refine wp_region_held_drew (S := (fun w' => Bx w' b1 62 (btC B))) (by kernel_rfl) (by exact H1.out) (fun hHeld => ?_)
      refine' wpAnyH_take (i := 0) (oi := _) (v := _) ?hi21 (by kernel_rfl) (by kernel_rfl) (by kernel_rfl) ?hq21 (Or.inl ⟨?hw21, ?hy21⟩) (by assumption) ?rest21
      case hi21 => (simp only [List.getElem?_toArray, List.getElem?_cons_succ, List.getElem?_cons_zero]; rfl)
      case hq21 => exact fun _ _ _ h => h
      case hw21 => rfl
      case hy21 => (intro wq hSw; (try dsimp only at hSw); go_simp; (try with_reducible rfl))
      (try simp only [Act.put, List.setIfInBounds_toArray, List.set_cons_zero, List.set_cons_succ])
      refine' wpAnyH_take (i := 1) (oi := _) (v := _) ?hi22 (by kernel_rfl) (by kernel_rfl) (by kernel_rfl) ?hq22 (Or.inl ⟨?hw22, ?hy22⟩) (by assumption) ?rest22
      case hi22 => (simp only [List.getElem?_toArray, List.getElem?_cons_succ, List.getElem?_cons_zero]; rfl)
      case hq22 => exact fun _ _ _ h => h
      case hw22 => rfl
      case hy22 => (intro wq hSw; (try dsimp only at hSw); go_simp; (try with_reducible rfl))
      (try simp only [Act.put, List.setIfInBounds_toArray, List.set_cons_zero, List.set_cons_succ])
      refine' wpAnyH_take (i := 2) (oi := _) (v := _) ?hi23 (by kernel_rfl) (by kernel_rfl) (by kernel_rfl) ?hq23 (Or.inl ⟨?hw23, ?hy23⟩) (by assumption) ?rest23
      case hi23 => (simp only [List.getElem?_toArray, List.getElem?_cons_succ, List.getElem?_cons_zero]; rfl)
      case hq23 => exact fun _ _ _ h => h
      case hw23 => rfl
      case hy23 => (intro wq hSw; (try dsimp only at hSw); go_simp; (try with_reducible rfl))
      (try simp only [Act.put, List.setIfInBounds_toArray, List.set_cons_zero, List.set_cons_succ])
      refine' wpAnyH_take (i := 3) (oi := _) (v := _) ?hi24 (by kernel_rfl) (by kernel_rfl) (by kernel_rfl) ?hq24 (Or.inl ⟨?hw24, ?hy24⟩) (by assumption) ?rest24
      case hi24 => (simp only [List.getElem?_toArray, List.getElem?_cons_succ, List.getElem?_cons_zero]; rfl)
      case hq24 => exact fun _ _ _ h => h
      case hw24 => rfl
      case hy24 => (intro wq hSw; (try dsimp only at hSw); go_simp; (try with_reducible rfl))
      (try simp only [Act.put, List.setIfInBounds_toArray, List.set_cons_zero, List.set_cons_succ])
      refine' wpAnyH_take (i := 4) (oi := _) (v := _) ?hi25 (by kernel_rfl) (by kernel_rfl) (by kernel_rfl) ?hq25 (Or.inl ⟨?hw25, ?hy25⟩) (by assumption) ?rest25
      case hi25 => (simp only [List.getElem?_toArray, List.getElem?_cons_succ, List.getElem?_cons_zero]; rfl)
      case hq25 => exact fun _ _ _ h => h
      case hw25 => rfl
      case hy25 => (intro wq hSw; (try dsimp only at hSw); go_simp; (try with_reducible rfl))
      (try simp only [Act.put, List.setIfInBounds_toArray, List.set_cons_zero, List.set_cons_succ])
      refine' wpAnyH_take (i := 5) (oi := _) (v := _) ?hi26 (by kernel_rfl) (by kernel_rfl) (by kernel_rfl) ?hq26 (Or.inl ⟨?hw26, ?hy26⟩) (by assumption) ?rest26
      case hi26 => (simp only [List.getElem?_toArray, List.getElem?_cons_succ, List.getElem?_cons_zero]; rfl)
      case hq26 => exact fun _ _ _ h => h
      case hw26 => rfl
      case hy26 => (intro wq hSw; (try dsimp only at hSw); go_simp; (try with_reducible rfl))
      (try simp only [Act.put, List.setIfInBounds_toArray, List.set_cons_zero, List.set_cons_succ])
      refine' wpAnyH_take (i := 6) (oi := _) (v := _) ?hi27 (by kernel_rfl) (by kernel_rfl) (by kernel_rfl) ?hq27 (Or.inl ⟨?hw27, ?hy27⟩) (by assumption) ?rest27
      case hi27 => (simp only [List.getElem?_toArray, List.getElem?_cons_succ, List.getElem?_cons_zero]; rfl)
      case hq27 => exact fun _ _ _ h => h
      case hw27 => rfl
      case hy27 => (intro wq hSw; (try dsimp only at hSw); go_simp; (try with_reducible rfl))
      (try simp only [Act.put, List.setIfInBounds_toArray, List.set_cons_zero, List.set_cons_succ])
      refine' wpAnyH_take (i := 7) (oi := _) (v := _) ?hi28 (by kernel_rfl) (by kernel_rfl) (by kernel_rfl) ?hq28 (Or.inl ⟨?hw28, ?hy28⟩) (by assumption) ?rest28
      case hi28 => (simp only [List.getElem?_toArray, List.getElem?_cons_succ, List.getElem?_cons_zero]; rfl)
      case hq28 => exact fun _ _ _ h => h
      case hw28 => rfl
      case hy28 => (intro wq hSw; (try dsimp only at hSw); go_simp; (try with_reducible rfl))
      (try simp only [Act.put, List.setIfInBounds_toArray, List.set_cons_zero, List.set_cons_succ])
      refine' wpAnyH_take (i := 8) (oi := _) (v := _) ?hi29 (by kernel_rfl) (by kernel_rfl) (by kernel_rfl) ?hq29 (Or.inl ⟨?hw29, ?hy29⟩) (by assumption) ?rest29
      case hi29 => (simp only [List.getElem?_toArray, List.getElem?_cons_succ, List.getElem?_cons_zero]; rfl)
      case hq29 => exact fun _ _ _ h => h
      case hw29 => rfl
      case hy29 => (intro wq hSw; (try dsimp only at hSw); refine bt_hy (x := .tmp 1) ?_ ?_ hSw <;> rfl)
      (try simp only [Act.put, List.setIfInBounds_toArray, List.set_cons_zero, List.set_cons_succ])
      refine' wpAnyH_take (i := 9) (oi := _) (v := _) ?hi30 (by kernel_rfl) (by kernel_rfl) (by kernel_rfl) ?hq30 (Or.inl ⟨?hw30, ?hy30⟩) (by assumption) ?rest30
      case hi30 => (simp only [List.getElem?_toArray, List.getElem?_cons_succ, List.getElem?_cons_zero]; rfl)
      case hq30 => exact fun _ _ _ h => h
      case hw30 => rfl
      case hy30 => (intro wq hSw; (try dsimp only at hSw); go_simp; (try with_reducible rfl))
      (try simp only [Act.put, List.setIfInBounds_toArray, List.set_cons_zero, List.set_cons_succ])
      refine' wpAnyH_take (i := 10) (oi := _) (v := _) ?hi31 (by kernel_rfl) (by kernel_rfl) (by kernel_rfl) ?hq31 (Or.inl ⟨?hw31, ?hy31⟩) (by assumption) ?rest31
      case hi31 => (simp only [List.getElem?_toArray, List.getElem?_cons_succ, List.getElem?_cons_zero]; rfl)
      case hq31 => exact fun _ _ _ h => h
      case hw31 => rfl
      case hy31 => (intro wq hSw; (try dsimp only at hSw); go_simp; (try with_reducible rfl))
      (try simp only [Act.put, List.setIfInBounds_toArray, List.set_cons_zero, List.set_cons_succ])
      refine' wpAnyH_take (i := 13) (oi := _) (v := _) ?hi32 (by kernel_rfl) (by kernel_rfl) (by kernel_rfl) ?hq32 (Or.inl ⟨?hw32, ?hy32⟩) (by assumption) ?rest32
      case hi32 => (simp only [List.getElem?_toArray, List.getElem?_cons_succ, List.getElem?_cons_zero]; rfl)
      case hq32 => exact fun _ _ _ h => h
      case hw32 => rfl
      case hy32 => (intro wq hSw; (try dsimp only at hSw); refine bt_hy (x := .tmp 1) ?_ ?_ hSw <;> rfl)
      (try simp only [Act.put, List.setIfInBounds_toArray, List.set_cons_zero, List.set_cons_succ])
      refine' wpAnyH_take (i := 14) (oi := _) (v := _) ?hi33 (by kernel_rfl) (by kernel_rfl) (by kernel_rfl) ?hq33 (Or.inl ⟨?hw33, ?hy33⟩) (by assumption) ?rest33
      case hi33 => (simp only [List.getElem?_toArray, List.getElem?_cons_succ, List.getElem?_cons_zero]; rfl)
      case hq33 => exact fun _ _ _ h => h
      case hw33 => rfl
      case hy33 => (intro wq hSw; (try dsimp only at hSw); go_simp; (try with_reducible rfl))
      (try simp only [Act.put, List.setIfInBounds_toArray, List.set_cons_zero, List.set_cons_succ])
      refine' wpAnyH_take (i := 15) (oi := _) (v := _) ?hi34 (by kernel_rfl) (by kernel_rfl) (by kernel_rfl) ?hq34 (Or.inl ⟨?hw34, ?hy34⟩) (by assumption) ?rest34
      case hi34 => (simp only [List.getElem?_toArray, List.getElem?_cons_succ, List.getElem?_cons_zero]; rfl)
      case hq34 => exact fun _ _ _ h => h
      case hw34 => rfl
      case hy34 => (intro wq hSw; (try dsimp only at hSw); go_simp; (try with_reducible rfl))
      (try simp only [Act.put, List.setIfInBounds_toArray, List.set_cons_zero, List.set_cons_succ])
      refine wpAnyH_ready (rs := [11]) (by kernel_rfl) (by simp) ?_
      refine' AllReadyH.cons (o := _) ?hi35 (fun K hK => ?rest35) AllReadyH.nil
      case hi35 => (simp only [List.getElem?_toArray, List.getElem?_cons_succ, List.getElem?_cons_zero]; rfl)
      go_simp
      go_at_call 71
      refine (i_row B ((k : Int) - 1) wr.drew).mono ?_
      rintro e w5 ⟨rfl, hb⟩
      have H3_5 := Lib.hid (show Bx w5 b3 62 (btC (skB B k)) from (hb.block b3 H3.out.lt).trans H3.out)
      have H2_5 := Lib.hid (show Bx w5 b2 62 (btC fun _ => 0) from (hb.block b2 H2.out.lt).trans H2.out)
      have H1_5 := Lib.hid (show Bx w5 b1 62 (btC B) from (hb.block b1 H1.out.lt).trans H1.out)
      have HB5 := Lib.hid (HBd.out.trans (hb.mono HBd.out.size))
      clear hb H3 H2 H1 HBd
      go_wp2_with fail
      refine hK.out _ _ (by (try dsimp only); exact H1_5.out) (fun hHeld => ?_)
      clear hK K
      (try simp only [Act.put, List.setIfInBounds_toArray, List.set_cons_zero, List.set_cons_succ])
      refine' wpAnyH_take (i := 12) (oi := _) (v := _) ?hi36 (by kernel_rfl) (by kernel_rfl) (by kernel_rfl) ?hq36 (Or.inl ⟨?hw36, ?hy36⟩) (by assumption) ?rest36
      case hi36 => (simp only [List.getElem?_toArray, List.getElem?_cons_succ, List.getElem?_cons_zero]; rfl)
      case hq36 => exact fun _ _ _ h => h
      case hw36 => rfl
      case hy36 => (intro wq hSw; (try dsimp only at hSw); go_simp; (try with_reducible rfl))
      (try simp only [Act.put, List.setIfInBounds_toArray, List.set_cons_zero, List.set_cons_succ])
      refine wpAnyH_ready (rs := [16]) (by kernel_rfl) (by simp) ?_
      refine' AllReadyH.cons (o := _) ?hi37 (fun K hK => ?rest37) AllReadyH.nil
      case hi37 => (simp only [List.getElem?_toArray, List.getElem?_cons_succ, List.getElem?_cons_zero]; rfl)
      go_simp
      go_at_call 71
      refine (i_row B ((k : Int) + 1) w5).mono ?_
      rintro e w6 ⟨rfl, hb⟩
      have H3_6 := Lib.hid (show Bx w6 b3 62 (btC (skB B k)) from (hb.block b3 H3_5.out.lt).trans H3_5.out)
      have H2_6 := Lib.hid (show Bx w6 b2 62 (btC fun _ => 0) from (hb.block b2 H2_5.out.lt).trans H2_5.out)
      have H1_6 := Lib.hid (show Bx w6 b1 62 (btC B) from (hb.block b1 H1_5.out.lt).trans H1_5.out)
      have HB6 := Lib.hid (HB5.out.trans (hb.mono HB5.out.size))
      clear hb H3_5 H2_5 H1_5 HB5
      have HN : Hid (Bx (w6.setCell ⟨b3, k, none⟩ (.int .u16 ((skV B k : Nat) : Int))) b3 62 (btC (skB B (k + 1))) ∧ Bx (w6.setCell ⟨b3, k, none⟩ (.int .u16 ((skV B k : Nat) : Int))) b2 62 (btC fun _ => 0) ∧ Bx (w6.setCell ⟨b3, k, none⟩ (.int .u16 ((skV B k : Nat) : Int))) b1 62 (btC B) ∧ Below w.heap.size w (w6.setCell ⟨b3, k, none⟩ (.int .u16 ((skV B k : Nat) : Int)))) := Lib.hid (by
        have h1 := Hb1.out
        have h2 := Hb2.out
        have h3 := Hb3.out
        refine ⟨?_, (heap_setCell_other w6 ⟨b3, k, none⟩ b2 _ (fun e => by have e2 : b2 = b3 := e; omega)).trans H2_6.out, (heap_setCell_other w6 ⟨b3, k, none⟩ b1 _ (fun e => by have e2 : b1 = b3 := e; omega)).trans H1_6.out, HB6.out.setCell (show w.heap.size ≤ b3 by omega) _⟩
        rw [← skB_up]
        exact bx_up H3_6.out hlt _)
      have hc3 := bx_cell H3_6.out hlt
      have hf3 : w6.frozen? ⟨b3, k, none⟩ = false := frozen_of_row w6 b3 k _ _ H3_6.out
      have hl3 := H3_6.out.lt
      go_wp2_with fail
      refine hK.out _ _ (by (try dsimp only); exact H1_6.out) (fun hHeld => ?_)
      clear hK K
      (try simp only [Act.put, List.setIfInBounds_toArray, List.set_cons_zero, List.set_cons_succ])
      refine' wpAnyH_take (i := 17) (oi := _) (v := _) ?hi38 (by kernel_rfl) (by kernel_rfl) (by kernel_rfl) ?hq38 (Or.inl ⟨?hw38, ?hy38⟩) (by assumption) ?rest38
      case hi38 => (simp only [List.getElem?_toArray, List.getElem?_cons_succ, List.getElem?_cons_zero]; rfl)
      case hq38 => exact fun _ _ _ h => h
      case hw38 => rfl
      case hy38 => (intro wq hSw; (try dsimp only at hSw); go_simp; (try with_reducible rfl))
      (try simp only [Act.put, List.setIfInBounds_toArray, List.set_cons_zero, List.set_cons_succ])
      refine' wpAnyH_take (i := 18) (oi := _) (v := _) ?hi39 (by kernel_rfl) (by kernel_rfl) (by kernel_rfl) ?hq39 (Or.inl ⟨?hw39, ?hy39⟩) (by assumption) ?rest39
      case hi39 => (simp only [List.getElem?_toArray, List.getElem?_cons_succ, List.getElem?_cons_zero]; rfl)
      case hq39 => exact fun _ _ _ h => h
      case hw39 => rfl
      case hy39 => (intro wq hSw; (try dsimp only at hSw); go_simp; (try with_reducible rfl))
      (try simp only [Act.put, List.setIfInBounds_toArray, List.set_cons_zero, List.set_cons_succ])
      refine wpAnyH_ready (rs := [19]) (by kernel_rfl) (by simp) ?_
      refine' AllReadyH.cons (o := _) ?hi40 (fun K hK => ?rest40) AllReadyH.nil
      case hi40 => (simp only [List.getElem?_toArray, List.getElem?_cons_succ, List.getElem?_cons_zero]; rfl)
      go_simp
      rw [Hv.out]
      refine hK.out _ _ (by (try dsimp only); exact HN.out.2.2.1) (fun hHeld => ?_)
      clear hK K
      (try simp only [Act.put, List.setIfInBounds_toArray, List.set_cons_zero, List.set_cons_succ])
      refine wpAnyH_done (by kernel_rfl) ?_ _
      go_wp2
      go_roundw
      case rel => exact ⟨k + 1, by omega, by go_num, HN⟩
      case measure => simp [intOf]; omega
    · obtain rfl : k = 16 := by omega
      have hkI : ¬ ((16 : Nat) : Int) < 16 := by omega
      obtain ⟨X, hX⟩ : ∃ X, X = skB B 16 := ⟨_, rfl⟩
      rw [← hX] at hI
      have H1 := Lib.hid hI.out.1
      have H2 := Lib.hid hI.out.2.1
      have HR2 : Hid (Bx (wr.setRow b2 (btC X)) b2 62 (btC X)) := Lib.hid (setRow_heap wr b2 _ _ _ _ H2.out)
      have HE : Hid (Below w.heap.size w (wr.setRow b2 (btC X))) := Lib.hid (below_setRow hI.out.2.2.2 (by have := Hb2.out; omega) _)
      have HX := Lib.hid hX
      clear hI hX
      go_wp2_with (refine wpList_load_row rfl 62 _ rfl b3 rfl 62 (btC X) (0, 0) _ H1.out Tryd.underlying62 rfl bt_info ?_; refine wpList_store_row rfl 62 _ _ rfl b2 (btC X) rfl rfl 62 (btC fun _ => 0) H2.out bt_info rfl (btC_one _) ?_)
      exact bodyPost_ret (v := .agg (btC X)) (results_cell_row rfl _ _ b2 62 (btC X) (0, 0) _ rfl HR2.out Tryd.underlying62 rfl bt_info) rfl ⟨by rw [HX.out], HE.out⟩
end Go.Proofs.YtoeifhflbgfcjaaDoor
