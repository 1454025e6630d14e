/- The laws' own helper 'at': some number from 0 to 255. -/
import Derived.Test.YtgedaaknkhkegaaDrawA
namespace Go.Proofs.Ytgedaaknkhkegaa
open Go.ChangeShapes Go.WideShapes Go.ChangeAt Go.RowKit
set_option linter.unusedVariables false

theorem at_any (a : Option Addr) (len cap i : Nat) (hi : i ≤ 1000) (w : World) (hr : Row8 w a len) (hl : len ≤ 1099511627776) :
    Calls Try.prog 18 #[.slice a len cap, .int .i64 (i : Int)] w fun e w' => (∃ x : Int, 0 ≤ x ∧ x ≤ 255 ∧ e = .returned (.int .i64 x)) ∧ w = w' := by
  by_cases h : (i : Int) < (len : Int)
  · obtain ⟨b, off, rfl, hv⟩ : ∃ b off, a = some ⟨b, off, none⟩ ∧ ∀ i : Nat, i < len → ∃ v : Int, 0 ≤ v ∧ v ≤ 255 ∧ w.cell? ⟨b, off + i, none⟩ = some (.int .u8 v) := by
      rcases hr.2 with h0 | h0
      · omega
      · exact h0
    obtain ⟨v, v0, v1, v2⟩ := hv i (by omega)
    clear hv hr
    go_enter Try.func18, Try.ntmps18
    go_wp2
    go_ret
    exact ⟨⟨v, v0, v1, rfl⟩, rfl⟩
  · clear hr
    go_enter Try.func18, Try.ntmps18
    go_wp2
    go_ret
    exact ⟨⟨((i : Int) * 7 + len) % 256, by omega, by omega, rfl⟩, rfl⟩
end Go.Proofs.Ytgedaaknkhkegaa
