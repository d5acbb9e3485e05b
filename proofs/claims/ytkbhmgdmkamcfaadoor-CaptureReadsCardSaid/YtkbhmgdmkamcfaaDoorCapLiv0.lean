/- The closed record that lives asks of: its bytes, how it is read, its text. -/
import Derived.Test.YtkbhmgdmkamcfaaDoorCapRdM
import Derived.Test.YtkbhmgdmkamcfaaDoorCapLine
set_option linter.unusedVariables false
set_option linter.unusedSimpArgs false
namespace Go.Proofs.YtkbhmgdmkamcfaaDoor.Cap
open Go.RowKit Mem Rw Air Base Oct

def r0 : Tr := ⟨7, 37, 0, 1, [10, 255]⟩
theorem r0_ok : okL none [r0] := ⟨by decide, trivial⟩
def z0 : List Int := sigL ++ bytesL [r0]
theorem z0_write : writeR none [r0] sigL = (z0, 0) := write_ok r0_ok
theorem z0_len : z0.length = 22 := by
  show (sigL ++ bytesL [r0]).length = 22
  simp [bytesL, rec_len, sigL, r0]
theorem z0_read : readA z0 = ([r0], 22, 0) := by
  have := readA_file r0_ok
  have e : (bytesL [r0]).length = 18 := by simp [bytesL, rec_len, r0]
  rw [e] at this
  exact this
theorem r0_line : lineB 7 37 0 1 (digB [10, 255]) = ⟨#[55, 32, 51, 55, 32, 48, 32, 103, 111, 111, 100, 32, 48, 97, 102, 102]⟩ := by
  kernel_rfl
theorem z0_bytes : Bytes z0 := by
  have h : Bytes (recL r0) := Crc.appL_bytes (Crc.ini_lt 0) (bytes_append (by intro z hz; simp [fldsL, Oct.putL, r0, Oct.numL] at hz; omega) (by intro z hz; simp [r0] at hz; omega))
  show Bytes (sigL ++ bytesL [r0])
  refine bytes_append (by intro z hz; simp [sigL] at hz; omega) ?_
  simpa [bytesL] using h
end Go.Proofs.YtkbhmgdmkamcfaaDoor.Cap
