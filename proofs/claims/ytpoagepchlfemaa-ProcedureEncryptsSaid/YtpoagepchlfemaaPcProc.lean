/- Procedure of control PDUs: a contract over the program. -/
import Derived.Test.YtpoagepchlfemaaCpChk
set_option linter.unusedVariables false
set_option linter.unusedSimpArgs false
namespace Go.Proofs.Ytpoagepchlfemaa.Cp
open Go.RowKit Mem Oct Rw Av
open Base (thenB)
def procZ (k : Int) : Int := if k = 8 then 8 else if k = 9 then 8 else if k = 3 then 3 else if k = 4 then 3 else if k = 5 then 3 else if k = 6 then 3 else if k = 18 then 18 else if k = 19 then 18 else if k = 20 then 20 else if k = 21 then 20 else if k = 0 then 0 else if k = 1 then 1 else if k = 2 then 2 else if k = 12 then 12 else if k = 15 then 15 else -1
set_option maxRecDepth 100000 in
set_option maxHeartbeats 4000000 in
theorem proc_any (k : Int) (w : World) : Calls Try.prog 58 #[.int .i64 k] w fun e w' => e = .returned (.int .i64 (procZ k)) ∧ w = w' := by
  by_cases h8 : k = 8
  · subst h8
    rw [show procZ 8 = 8 from by decide]
    go_enter Try.func58, Try.ntmps58
    go_wp2_with fail
    go_ret
    exact ⟨rfl, rfl⟩
  by_cases h9 : k = 9
  · subst h9
    rw [show procZ 9 = 8 from by decide]
    go_enter Try.func58, Try.ntmps58
    go_wp2_with fail
    go_ret
    exact ⟨rfl, rfl⟩
  by_cases h3 : k = 3
  · subst h3
    rw [show procZ 3 = 3 from by decide]
    go_enter Try.func58, Try.ntmps58
    go_wp2_with fail
    go_ret
    exact ⟨rfl, rfl⟩
  by_cases h4 : k = 4
  · subst h4
    rw [show procZ 4 = 3 from by decide]
    go_enter Try.func58, Try.ntmps58
    go_wp2_with fail
    go_ret
    exact ⟨rfl, rfl⟩
  by_cases h5 : k = 5
  · subst h5
    rw [show procZ 5 = 3 from by decide]
    go_enter Try.func58, Try.ntmps58
    go_wp2_with fail
    go_ret
    exact ⟨rfl, rfl⟩
  by_cases h6 : k = 6
  · subst h6
    rw [show procZ 6 = 3 from by decide]
    go_enter Try.func58, Try.ntmps58
    go_wp2_with fail
    go_ret
    exact ⟨rfl, rfl⟩
  by_cases h18 : k = 18
  · subst h18
    rw [show procZ 18 = 18 from by decide]
    go_enter Try.func58, Try.ntmps58
    go_wp2_with fail
    go_ret
    exact ⟨rfl, rfl⟩
  by_cases h19 : k = 19
  · subst h19
    rw [show procZ 19 = 18 from by decide]
    go_enter Try.func58, Try.ntmps58
    go_wp2_with fail
    go_ret
    exact ⟨rfl, rfl⟩
  by_cases h20 : k = 20
  · subst h20
    rw [show procZ 20 = 20 from by decide]
    go_enter Try.func58, Try.ntmps58
    go_wp2_with fail
    go_ret
    exact ⟨rfl, rfl⟩
  by_cases h21 : k = 21
  · subst h21
    rw [show procZ 21 = 20 from by decide]
    go_enter Try.func58, Try.ntmps58
    go_wp2_with fail
    go_ret
    exact ⟨rfl, rfl⟩
  by_cases h0 : k = 0
  · subst h0
    rw [show procZ 0 = 0 from by decide]
    go_enter Try.func58, Try.ntmps58
    go_wp2_with fail
    go_ret
    exact ⟨rfl, rfl⟩
  by_cases h1 : k = 1
  · subst h1
    rw [show procZ 1 = 1 from by decide]
    go_enter Try.func58, Try.ntmps58
    go_wp2_with fail
    go_ret
    exact ⟨rfl, rfl⟩
  by_cases h2 : k = 2
  · subst h2
    rw [show procZ 2 = 2 from by decide]
    go_enter Try.func58, Try.ntmps58
    go_wp2_with fail
    go_ret
    exact ⟨rfl, rfl⟩
  by_cases h12 : k = 12
  · subst h12
    rw [show procZ 12 = 12 from by decide]
    go_enter Try.func58, Try.ntmps58
    go_wp2_with fail
    go_ret
    exact ⟨rfl, rfl⟩
  by_cases h15 : k = 15
  · subst h15
    rw [show procZ 15 = 15 from by decide]
    go_enter Try.func58, Try.ntmps58
    go_wp2_with fail
    go_ret
    exact ⟨rfl, rfl⟩
  rw [show procZ k = -1 from by unfold procZ; rw [if_neg h8, if_neg h9, if_neg h3, if_neg h4, if_neg h5, if_neg h6, if_neg h18, if_neg h19, if_neg h20, if_neg h21, if_neg h0, if_neg h1, if_neg h2, if_neg h12, if_neg h15]]
  have g8 : (k == 8) = false := by simpa using h8
  have g9 : (k == 9) = false := by simpa using h9
  have g3 : (k == 3) = false := by simpa using h3
  have g4 : (k == 4) = false := by simpa using h4
  have g5 : (k == 5) = false := by simpa using h5
  have g6 : (k == 6) = false := by simpa using h6
  have g18 : (k == 18) = false := by simpa using h18
  have g19 : (k == 19) = false := by simpa using h19
  have g20 : (k == 20) = false := by simpa using h20
  have g21 : (k == 21) = false := by simpa using h21
  have g0 : (k == 0) = false := by simpa using h0
  have g1 : (k == 1) = false := by simpa using h1
  have g2 : (k == 2) = false := by simpa using h2
  have g12 : (k == 12) = false := by simpa using h12
  have g15 : (k == 15) = false := by simpa using h15
  clear h8 h9 h3 h4 h5 h6 h18 h19 h20 h21 h0 h1 h2 h12 h15
  go_enter Try.func58, Try.ntmps58
  go_wp2_with fail
  go_ret
  exact ⟨rfl, rfl⟩
end Go.Proofs.Ytpoagepchlfemaa.Cp
