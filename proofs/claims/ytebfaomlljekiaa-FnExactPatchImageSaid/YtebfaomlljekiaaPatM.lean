/- Mathematics of patching: parts of one image laid over another. -/
import Derived.Test.YtebfaomlljekiaaPntM
import Derived.Test.YtebfaomlljekiaaVpkM
import Derived.Test.YtebfaomlljekiaaCropS
import Derived.Test.YtebfaomlljekiaaPasteO
namespace Go.Proofs.Ytebfaomlljekiaa
open Go.RowKit Go.Shelf
set_option linter.unusedSimpArgs false
set_option linter.unusedVariables false

/-- Whether the first k boxes lie in the image. -/
def fitsN (W H : Int) (bs : List Int) : Nat → Bool
  | 0 => true
  | k + 1 => fitsN W H bs k && fitB (q0 bs k) (q1 bs k) (q2 bs k) (q3 bs k) W H
theorem fitsN_no {W H : Int} {bs : List Int} {k n : Nat} (h : fitB (q0 bs k) (q1 bs k) (q2 bs k) (q3 bs k) W H = false) (hk : k < n) : fitsN W H bs n = false := by
  induction n with
  | zero => omega
  | succ n ih =>
    unfold fitsN
    by_cases e : k = n
    · subst e; rw [h, Bool.and_false]
    · rw [ih (by omega), Bool.false_and]
/-- The pixels after the first k patches. -/
def patM (W P : Nat) (ps : List Int) (M : Nat → Nat → Nat → Int) (bs : List Int) : Nat → Nat → Nat → Nat → Int
  | 0 => M
  | k + 1 => paF (fun x y => pxc W P ps ((q0 bs k).toNat + x) ((q1 bs k).toNat + y)) (patM W P ps M bs k) (q0 bs k) (q1 bs k) (q2 bs k).toNat (q3 bs k).toNat 0
def patL (W H P : Nat) (xs ps bs : List Int) (k : Nat) : List Int := img W H P (patM W P ps (pxc W P xs) bs k)
def patOk (W H P : Int) (xs : List Int) (W' H' P' : Int) (ps bs : List Int) (n : Nat) : Bool := cmpB W H P xs W' H' P' ps && (decide ((n : Int) ≤ 128) && fitsN W H bs n)
theorem patL_len (W H P : Nat) (xs ps bs : List Int) (k : Nat) : (patL W H P xs ps bs k).length = W * H * P := img_len _ _ _ _
theorem patL_zero {W H P : Nat} {xs : List Int} (ps bs : List Int) (hl : xs.length = W * H * P) : xs = patL W H P xs ps bs 0 :=
  ((img_ext (W := W) (H := H) (P := P) fun x y p _ _ hp => img_pxc (H := H) hp).trans (img_of hl)).symm
theorem patL_next {W H P : Nat} (xs ps bs : List Int) (k X Y bw bh : Nat) (h0 : q0 bs k = X) (h1 : q1 bs k = Y) (h2 : q2 bs k = bw) (h3 : q3 bs k = bh) :
    img W H P (paF (px bw P (cropL W P ps X Y bw bh)) (px W P (patL W H P xs ps bs k)) X Y bw bh 0) = patL W H P xs ps bs (k + 1) := by
  unfold patL
  refine img_ext fun i j p hi hj hp => ?_
  show _ = paF (fun x y => pxc W P ps ((q0 bs k).toNat + x) ((q1 bs k).toNat + y)) (patM W P ps (pxc W P xs) bs k) (q0 bs k) (q1 bs k) (q2 bs k).toNat (q3 bs k).toNat 0 i j p
  rw [h0, h1, h2, h3]
  simp only [Int.toNat_natCast]
  unfold paF
  by_cases c : (Y : Int) ≤ j ∧ (X : Int) ≤ i ∧ (i : Int) - X < bw ∧ ((j : Int) - Y < bh ∨ ((j : Int) - Y = bh ∧ (i : Int) - X < (0 : Nat)))
  · rw [if_pos c, if_pos c]
    unfold cropL
    exact img_px _ (by omega) (by omega) hp
  · rw [if_neg c, if_neg c, img_px _ hi hj hp]
end Go.Proofs.Ytebfaomlljekiaa
