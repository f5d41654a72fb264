/- PatchImage of the program answers what the model answers, for every two images and every list of boxes; it writes into no argument, and its answer owns its memory. -/
import Derived.Test.YtebfaomlljekiaaRows
import Derived.WalkKit
import Derived.ProofKit
import Derived.OpenShut
import Derived.ShutString
import Derived.ChangeOld
import Derived.Below
import Derived.Lib.SmallJoins
import Derived.Test.YtebfaomlljekiaaGen
import Derived.Test.YtebfaomlljekiaaSz
import Derived.Deep.Cut
import Derived.Deep.RegionHeld3
import Derived.Test.YtebfaomlljekiaaPatV
import Derived.Test.YtebfaomlljekiaaIStL
import Derived.Test.YtebfaomlljekiaaNa
import Derived.Test.YtebfaomlljekiaaTriO
namespace Go.Proofs.Ytebfaomlljekiaa.fnExactPatchImage
open Go.ChangeShapes Go.WideShapes Go.ChangeAt Go.RowKit
open Go.ChangeMaps (open_string shut_string)
set_option linter.unusedVariables false

theorem over : Rows.fnExactPatchImageRow.holds Try.pinned (OpenSpec.ofChange Rows.fnExactPatchImageSpec) :=
  OpenClaim.holds_of_wide 11 Try.f11 rfl rfl rfl rfl rfl rfl rfl ⟨rfl, rfl, rfl, rfl, rfl⟩ rfl rfl rfl rfl rfl (by kernel_rfl) Try.func11 (by kernel_rfl)
    (of_decide_eq_true (by kernel_rfl)) (by unfold Func.isWrapper; first | (rw [if_pos (by decide +kernel)]; kernel_rfl) | (rw [if_neg (by decide +kernel)]; exact ⟨rfl, rfl⟩))
    (fun os started H enc _ => lifted os started H enc)

theorem proved : Rows.FnExactPatchImageSaid := over
end Go.Proofs.Ytebfaomlljekiaa.fnExactPatchImage
