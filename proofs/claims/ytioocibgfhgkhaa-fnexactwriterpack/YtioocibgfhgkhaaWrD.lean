/- impl's window: its open words. -/
import Derived.Test.YtioocibgfhgkhaaWrC
import Derived.Test.YtioocibgfhgkhaaGaA
import Derived.Lib.SliceRun
namespace Go.Proofs.Ytioocibgfhgkhaa
open Go.ChangeShapes Go.WideShapes Go.ChangeAt Go.RowKit
set_option linter.unusedVariables false
set_option linter.unusedSimpArgs false
set_option maxRecDepth 100000

/-- The cell of an open word: where the word lies. -/
def opCl (p : Addr) : List Value := [.pointer (some p)]
theorem elemO : Elem (α := Addr) 214 200 (.agg #[.pointer none]) 1 8 opCl where
  under := Try.underlying200
  info := by kernel_rfl
  zcells := by kernel_rfl
  pos := by decide
  len := fun _ => rfl
  one := fun a u hu => by
    simp only [opCl, List.mem_cons, List.not_mem_nil, or_false] at hu
    subst hu
    rfl
theorem rwO_one (w : World) (p : Addr) (T : TypeId) (c : Nat) (hc : 1 ≤ c ∧ c ≤ 9223372036854775807) : Rw 1 opCl (w.alloc (.cells #[.pointer (some p)] T)) (.slice (some ⟨w.heap.size, 0, none⟩) 1 c) [p] := by
  refine ⟨by simp, _, _, rfl, by simpa using hc, .inr ⟨w.heap.size, 0, rfl, fun i hi j u hu => ?_⟩⟩
  obtain rfl : i = 0 := by simp at hi; omega
  simp only [List.getElem_cons_zero, opCl] at hu
  simpa using hu
/-- Which of the first k words are open. -/
def opI (ms : List Wd) (k : Nat) : List Nat := (List.range k).filter fun i => !(ms.getD i ⟨⟨#[]⟩, [], true⟩).done
theorem opI_step (ms : List Wd) (k : Nat) (h : k < ms.length) : opI ms (k + 1) = opI ms k ++ (if ms[k].done then [] else [k]) := by
  unfold opI
  rw [List.range_succ, List.filter_append]
  congr 1
  rw [List.filter_cons, getD_lt _ h]
  cases ms[k].done <;> simp
theorem opI_len (ms : List Wd) : ∀ k, k ≤ ms.length → (opI ms k).length = openN (ms.take k)
  | 0, _ => by simp [opI, openN]
  | k + 1, h => by
    rw [opI_step ms k (by omega), openN_step ms k (by omega), List.length_append, opI_len ms k (by omega)]
    cases ms[k].done <;> simp
theorem opI_le (ms : List Wd) (k : Nat) : (opI ms k).length ≤ k := by
  unfold opI
  have := List.length_filter_le (fun i => !(ms.getD i ⟨⟨#[]⟩, [], true⟩).done) (List.range k)
  simpa using this
/-- Where these lie. -/
def adW (b off : Nat) (i : Nat) : Addr := ⟨b, off + i * 3, none⟩
set_option maxHeartbeats 4000000 in
theorem winOpen_any (b o bb off cap : Nat) (a : Option Addr) (rs : List (Nst Wd)) (w : World) (hc : w.cell? ⟨b, o + 2, none⟩ = some (.slice a rs.length cap)) (hr : Rw 3 wdCl w (.slice a rs.length cap) rs) (ha : rs = [] ∨ a = some ⟨bb, off, none⟩) (hl : rs.length ≤ 1048576) :
    Calls Try.prog 149 #[.pointer (some ⟨b, o, none⟩)] w fun e w' => (∃ u, e = .returned u ∧ ApR 214 1 opCl w' w.heap.size u ((opI (rs.map Nst.m) rs.length).map (adW bb off))) ∧ Below w.heap.size w w' := by
  have ba : ∀ (w : World) o, Below w.heap.size w (w.alloc o) := fun w o => (Below.refl _ _).alloc (Nat.le_refl _) o
  have HC := dHide fun W (hb : Below w.heap.size w W) => (hb.cell (p := ⟨b, o + 2, none⟩) (dCell_lt hc)).trans hc
  have HR := dHide fun W (hb : Below w.heap.size w W) => hr.below hb
  have HA := dHide ha
  have t1 := taOpen_done
  have t2 := taOpen_yes
  clear ha hr
  go_enter Try.func149, Try.ntmps149
  go_wp2
  go_loopw [3, 12] (fun u x wr => ∃ (k : Nat) (oa : Option Addr) (oc : Nat), x = .int .i64 (k : Int) ∧ u = .slice oa (opI (rs.map Nst.m) k).length oc ∧ k ≤ rs.length ∧ Hid (ApR 214 1 opCl wr w.heap.size (.slice oa (opI (rs.map Nst.m) k).length oc) ((opI (rs.map Nst.m) k).map (adW bb off))) ∧ Below w.heap.size w wr) (fun _ x _ => rs.length - (intOf x).toNat)
  case atStart => exact ⟨0, none, 0, rfl, rfl, Nat.zero_le _, .inl ⟨rfl, none, rfl⟩, Below.refl _ _⟩
  case round =>
    obtain ⟨k, oa, oc, rfl, rfl, hk, hA, hb⟩ := hrel
    by_cases hlt : (k : Int) < (rs.length : Int)
    · have hkl : k < rs.length := by omega
      have hne : ¬ rs = [] := fun e => by rw [e] at hkl; simp at hkl
      have ea := (dUnhide HA).resolve_left hne
      subst ea
      obtain ⟨b', off', e', he⟩ := (dUnhide HR wr hb).word hkl
      cases e'
      have c2 := (he k hkl).2.2
      have hcw := dUnhide HC wr hb
      have hst := opI_step (rs.map Nst.m) k (by simpa using hkl)
      rw [List.getElem_map] at hst
      have hol := opI_le (rs.map Nst.m) k
      cases hd : rs[k].m.done with
      | true =>
        rw [hd] at c2 hst
        simp only [if_true, List.append_nil] at hst
        have C1 := dHide (winAt_done b o bb off rs.length cap k wr hcw hkl (by omega) c2)
        have A2 := hA
        have EL := dHide hst
        clear c2 he hcw hst hd hA
        go_wp2_with fail
        refine (dUnhide C1).mono ?_
        rintro e w1 ⟨rfl, rfl⟩
        clear C1
        go_wp2
        go_roundw
        case rel => exact ⟨k + 1, oa, oc, by go_num, by rw [dUnhide EL], by omega, (by rw [dUnhide EL]; exact (dUnhide A2).below (ba _ _)), belowThen hb (ba _ _)⟩
        case measure => simp [intOf]; omega
      | false =>
        rw [hd] at c2 hst
        have C1 := dHide (winAt_open b o bb off rs.length cap k wr hcw hkl (by omega) c2)
        have EL : Hid (opI (rs.map Nst.m) (k + 1) = opI (rs.map Nst.m) k ++ [k]) := by rw [Hid, hst]; rfl
        have bA := ba wr (.cells #[.pointer (some ⟨bb, off + k * 3, none⟩)] 214)
        have bB := ba (wr.alloc (.cells #[.pointer (some ⟨bb, off + k * 3, none⟩)] 214)) (.cells #[.pointer (some ⟨bb, off + k * 3, none⟩)] 214)
        have A2 := dHide (((dUnhide hA).below bA).below bB)
        have RO := rwO_one (wr.alloc (.cells #[.pointer (some ⟨bb, off + k * 3, none⟩)] 214)) ⟨bb, off + k * 3, none⟩ 214 1 (by omega)
        rw [show (wr.alloc (.cells #[.pointer (some ⟨bb, off + k * 3, none⟩)] 214)).heap.size = wr.heap.size + 1 from by simp] at RO
        replace RO := dHide RO
        have tv : Hid (∀ j, touch (.slice oa (opI (rs.map Nst.m) k).length oc) = some j → w.heap.size ≤ j) := fun j hj => ((dUnhide hA).touched elemO hj).1
        have B2 := dHide (belowThen hb (belowThen bA bB))
        have hs2 := hb.size
        clear c2 he hcw hst hd hA bA bB
        go_wp2_with fail
        refine (dUnhide C1).mono ?_
        rintro e w1 ⟨rfl, rfl⟩
        clear C1
        go_wp2_with (first
          | (at_builtin; refine wp_apR elemO rfl _ _ rfl w.heap.size _ ((opI (rs.map Nst.m) k).map (adW bb off)) rfl (dUnhide A2) _ [⟨bb, off + k * 3, none⟩] rfl (dUnhide RO) (by simp; omega) (by simp; omega) (by simp; omega) ?_; intro v5 w5 P5 g5 t5
             obtain ⟨a5, c5, e5⟩ : ∃ a c, v5 = .slice a (opI (rs.map Nst.m) (k + 1)).length c := by
               obtain ⟨a, c, e⟩ := ApR.slice elemO P5
               exact ⟨a, c, by rw [e, dUnhide EL]; simp⟩
             subst e5
             have P6 : Hid (ApR 214 1 opCl w5 w.heap.size (.slice a5 (opI (rs.map Nst.m) (k + 1)).length c5) ((opI (rs.map Nst.m) (k + 1)).map (adW bb off))) := by
               have q := P5
               have e9 : (opI (rs.map Nst.m) (k + 1)).map (adW bb off) = (opI (rs.map Nst.m) k).map (adW bb off) ++ [⟨bb, off + k * 3, none⟩] := by rw [dUnhide EL, List.map_append]; rfl
               rw [Hid, e9]; exact q
             have B5 := dHide ((dUnhide B2).grown g5 (by simp; omega) (fun j hj => dUnhide tv j hj))
             clear P5))
        go_roundw
        case rel => exact ⟨k + 1, a5, c5, by go_num, rfl, by omega, P6, dUnhide B5⟩
        case measure => simp [intOf]; omega
    · have ek : k = rs.length := by omega
      subst ek
      clear HC HR HA
      go_wp2
      go_ret
      exact ⟨⟨_, rfl, dUnhide hA⟩, hb⟩
end Go.Proofs.Ytioocibgfhgkhaa
