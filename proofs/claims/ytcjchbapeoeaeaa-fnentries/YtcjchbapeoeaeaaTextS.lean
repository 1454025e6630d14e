/- The contracts of spec's PutText and GetText. -/
import Derived.Test.YtcjchbapeoeaeaaNumS
import Derived.Test.YtcjchbapeoeaeaaGetS
import Derived.Lib.ConvBytes
import Derived.Lib.Strings
import Derived.Laws.BytesArg
import Derived.Laws.IdiomStrings
namespace Go.Proofs.Ytcjchbapeoeaeaa
open Go.ChangeShapes Go.WideShapes Go.ChangeAt Go.RowKit
set_option linter.unusedVariables false

/-- The bytes of a text: the number form of its length, and itself. -/
def textB (l : List UInt8) : List UInt8 := numB l.length ++ l
theorem conv_bytes (s : ByteArray) (w : World) : (convert 9 22 (.string s)).run Try.prog w = .ok (.slice (some ⟨w.heap.size, 0, none⟩) s.size (grownCap w s.size 0 5)) (Lib.bytesWorld w 5 s) :=
  Lib.run_convert_string_bytes w 9 22 5 s Try.underlying9 Try.underlying22 Try.underlying5
theorem bytes_grown (w : World) (T : TypeId) (s : ByteArray) : w.grownBy (Lib.bytesWorld w T s) none :=
  ⟨rfl, rfl, rfl, by rw [Lib.bytesWorld_size]; omega, fun k hk _ => Lib.bytesWorld_at_old w T s k hk⟩
theorem bytes_cells (w : World) (T : TypeId) (s : ByteArray) : ∀ j u, (bcells s.data.toList)[j]? = some u → (Lib.bytesWorld w T s).cell? ((⟨w.heap.size, 0, none⟩ : Addr).add j) = some u := by
  intro j u hu
  have hj : j < s.data.toList.length := by
    rcases Nat.lt_or_ge j s.data.toList.length with h | h
    · exact h
    · rw [List.getElem?_eq_none (by rw [bcells_len]; exact h)] at hu
      cases hu
  have hj' : j < s.size := by rw [Lib.size_eq]; exact hj
  have e : (⟨w.heap.size, 0, none⟩ : Addr).add j = ⟨w.heap.size, j, none⟩ := by unfold Addr.add; split <;> simp_all
  rw [e, Lib.bytesWorld_cell w T s j hj']
  rw [← hu]
  simp only [bcells, List.getElem?_map, List.getElem?_eq_getElem hj, Option.map_some, List.getD, Option.getD_some]
theorem many_cell (l : List UInt8) : ∀ u ∈ bcells l, u.oneCell' = true := by
  intro u hu
  simp only [bcells, List.mem_map] at hu
  obtain ⟨c, -, rfl⟩ := hu
  rfl
set_option maxHeartbeats 1000000 in
theorem specPutText_any (s : ByteArray) (h : s.size ≤ 1099511627776) (w : World) :
    Calls Try.prog 56 #[.string s] w fun e w' => (∃ v, e = .returned v ∧ w'.ownsRow w.heap.size 5 1 v (textB s.data.toList).length (bcells (textB s.data.toList))) ∧ Below w.heap.size w w' := by
  obtain ⟨i0, hi, hz0, hz1, hz2⟩ := info_parts info8'
  have hcv := conv_bytes s
  have hsz : s.data.toList.length = s.size := by rw [← Lib.size_eq]
  have HS := dHide hsz
  clear hsz
  go_enter Try.func56, Try.ntmps56
  go_wp2_with fail
  refine (specPut_yes s.size (by omega) w).mono ?_
  rintro e w1 ⟨⟨v, rfl, hown⟩, hb⟩
  have hlt := hown.lt
  have hown1 := hown.kept (bytes_grown w1 5 s) (by cases hv : v.ownBlock <;> simp)
  have hn9 := numB_len s.size
  go_wp2_with (at_builtin; refine wpList_append_own _ rfl _ _ 22 rfl w.heap.size 5 i0 (.int .u8 0) 1 1 Try.underlying22 hi hz0 hz1 hz2 rfl (by decide) _ _ _ rfl hown1 ⟨w1.heap.size, 0, none⟩ s.size _ (bcells s.data.toList) rfl ?c1 (bytes_cells _ _ _) (many_cell _) ?c3 ?c4 ?c5 ?_)
  case c1 => rw [bcells_len, dUnhide HS]; omega
  case c3 => unfold maxLen; omega
  case c4 => omega
  case c5 => have := hb.size; rw [Lib.bytesWorld_size]; omega
  intro v' w2 hown' hgrow _
  have hb1 : Below w.heap.size w (Lib.bytesWorld w1 5 s) := hb.grown (bytes_grown w1 _ s) hb.size (fun k hk => by cases hk)
  have hb2 : Below w.heap.size w w2 := hb1.grown hgrow hb1.size (fun k hk => (hlt k hk).1)
  have hown2 : w2.ownsRow w.heap.size 5 1 v' (textB s.data.toList).length (bcells (textB s.data.toList)) := by
    have e1 : bcells (textB s.data.toList) = bcells (numB s.size) ++ bcells s.data.toList := by rw [textB, dUnhide HS]; simp [bcells]
    have e2 : (textB s.data.toList).length = (numB s.size).length + s.size := by rw [textB, List.length_append, dUnhide HS]
    rw [e1, e2]; exact hown'
  clear hown hown1 hown' hgrow hb hb1 hlt HS hcv
  go_wp2
  go_ret
  exact ⟨⟨_, rfl, hown2⟩, hb2⟩
end Go.Proofs.Ytcjchbapeoeaeaa
