/- impl's sets: without, domainsOf. -/
import Derived.Test.YtognmmmplmideaaImpDa
namespace Go.Proofs.Ytognmmmplmideaa
open Go.ChangeShapes Go.WideShapes Go.ChangeAt Go.RowKit
set_option linter.unusedVariables false

theorem lessL_snoc_yes {ms ys : List Int} {x : Int} (h : x ∈ ys) : lessL (ms ++ [x]) ys = lessL ms ys := by simp [lessL, List.filter_append, h]
theorem lessL_snoc_no {ms ys : List Int} {x : Int} (h : ¬ x ∈ ys) (hm : ¬ x ∈ ms) : lessL (ms ++ [x]) ys = addD (lessL ms ys) x := by
  have hn : ¬ x ∈ lessL ms ys := fun hx => hm (List.mem_filter.1 hx).1
  unfold addD
  rw [if_neg (by simpa using hn)]
  simp [lessL, List.filter_append, h]
theorem domsOf_snoc (ds ms : List Int) (x : Int) : domsOf ds (ms ++ [x]) = addD (domsOf ds ms) (domAt ds x) := by
  rw [domsOf, List.map_append, List.foldl_append]
  rfl
theorem domsOf_perm {ds ms xs : List Int} (h : ms.Perm xs) : (domsOf ds ms).Perm (domsOf ds xs) :=
  (List.perm_ext_iff_of_nodup (domsOf_nodup _ _) (domsOf_nodup _ _)).2 fun d => by simp only [mem_domsOf, h.mem_iff]
theorem domsOf_le (ds xs : List Int) : (domsOf ds xs).length ≤ xs.length := by
  have := domsOf_len ds xs xs.length (Nat.le_refl _)
  rwa [List.take_length] at this
set_option maxHeartbeats 2000000 in
theorem domainsOf_any (sv : Value) (b : Nat) (ds xs : List Int) (cop : Int) (w : World) (hd : Ns w sv ds) (hx : SetN w b xs) (hn : nodesP ds cop xs) (hl : xs.length ≤ 1048576) :
    Calls Try.prog 114 #[.agg #[sv, .int .i64 cop], .map (some b)] w fun e w' => e = .returned (.map (some (w.heap.size + 1))) ∧ SetN w' (w.heap.size + 1) (domsOf ds xs) ∧ Below w.heap.size w w' := by
  obtain ⟨h0, a, cap, rfl, -, hd⟩ := hd
  have HD := dHide hd
  have HN := dHide hn
  have hbl := dHide hx.lt
  have hh := dHide ((hx.alloc (.cells #[.slice a ds.length cap, .int .i64 cop] 43)).alloc (.map #[] 0))
  have hmade := dHide (SetN.made (w.alloc (.cells #[.slice a ds.length cap, .int .i64 cop] 43)))
  have hmm := @run_makeMap Try.prog
  have e1 : ((w.alloc (.cells #[.slice a ds.length cap, .int .i64 cop] 43)).alloc (.map #[] 0)).heap.size = w.heap.size + 2 := by simp
  have e2 : (w.alloc (.cells #[.slice a ds.length cap, .int .i64 cop] 43)).heap.size = w.heap.size + 1 := by simp
  have E1 := dHide e1
  have E2 := dHide e2
  have hb00 : Below w.heap.size w ((w.alloc (.cells #[.slice a ds.length cap, .int .i64 cop] 43)).alloc (.map #[] 0)) := ((Below.refl _ _).alloc (Nat.le_refl _) _).alloc (by simp) _
  have HB0 := dHide hb00
  have hcc : ((w.alloc (.cells #[.slice a ds.length cap, .int .i64 cop] 43)).alloc (.map #[] 0)).cell? ⟨w.heap.size, 0, none⟩ = some (.slice a ds.length cap) := by simp
  have HCC := dHide hcc
  clear hx e1 e2 hd hn hb00 hcc
  go_enter Try.func114, Try.ntmps114
  go_wp2_with (first
    | (at_range; refine wp_setRange _ rfl _ rfl b xs rfl (dUnhide hh) ?_; intro w0 hrg0 hg0 hs0)
    | go_in)
  go_frame
  rw [dUnhide E1] at hrg0 hs0 ⊢
  have hb0 : Below w.heap.size w w0 := (dUnhide HB0).grown hg0 (by simp; omega) (fun j hj => by cases hj)
  have hset0 := (dUnhide hmade).kept hg0 (by simp)
  rw [dUnhide E2] at hset0
  have hc0 : w0.cell? ⟨w.heap.size, 0, none⟩ = some (.slice a ds.length cap) := (World.cell?_of_block (w' := w0) (a := ⟨w.heap.size, 0, none⟩) (hg0.block w.heap.size (by simp; omega) (by simp))).trans (dUnhide HCC)
  clear hh hmade HB0 HCC
  go_loopw [6] (fun _ wr => ∃ ms, RangeN wr b (w.heap.size + 2) xs ms ∧ SetN wr (w.heap.size + 1) (domsOf ds ms) ∧ wr.cell? ⟨w.heap.size, 0, none⟩ = some (.slice a ds.length cap) ∧ Below w.heap.size w wr) (fun _ wr => wr.rangeLeft b (w.heap.size + 2))
  case atStart => exact ⟨[], hrg0, hset0, hc0, hb0⟩
  case round =>
    obtain ⟨ms, hrg, hset, hbx, hb⟩ := hrel
    clear hrg0 hg0 hs0 hb0 hset0 hc0
    have hml := dHide hrg
    go_wp2_with (first
      | (at_next; refine wp_setNext _ rfl _ rfl b (w.heap.size + 2) xs ms rfl hrg ?_ ?_)
      | go_in)
    · intro hp
      have hset' := dHide (hset.perm (domsOf_perm hp))
      clear hp hset hml
      go_wp2
      go_ret
      exact ⟨rfl, dUnhide hset', hb⟩
    · intro x w1 hx hxm hrg1 hlt hg1 hen
      have hb1 : Below w.heap.size w w1 := hb.grown hg1 hb.size (fun j hj => by cases hj; omega)
      have hset1 := hset.kept hg1 (by simp)
      have hbx1 : w1.cell? ⟨w.heap.size, 0, none⟩ = some (.slice a ds.length cap) := (World.cell?_of_block (w' := w1) (a := ⟨w.heap.size, 0, none⟩) (hg1.block w.heap.size (dCell_lt hbx) (by simp))).trans hbx
      have HL := dHide hlt
      have HR := dHide hrg1
      have hlen := len_le_of_sub (dUnhide hml).2.2.1 xs (dUnhide hml).2.2.2.1
      have hlen2 := domsOf_le ds ms
      have hlen3 : (domsOf ds ms).length ≤ 1048576 := Nat.le_trans hlen2 (Nat.le_trans hlen hl)
      have HS := dHide (domsOf_snoc ds ms x)
      obtain ⟨k, hkl, hk⟩ := List.getElem_of_mem hx
      obtain ⟨i, d, e1, hil, e2, hd8, e3⟩ := domAt_in (dUnhide HN) k hkl
      obtain ⟨b', off, rfl, hc⟩ : ∃ b off, a = some ⟨b, off, none⟩ ∧ ∀ i (h : i < ds.length), w.cell? ⟨b, off + i, none⟩ = some (.int .i64 ds[i]) := orN_of_lt (dUnhide HD) (k := i) hil
      have c2 : w1.cell? ⟨b', off + i, none⟩ = some (.int .i64 (d : Int)) := by rw [← e2]; exact (hb1.cell (p := ⟨b', off + i, none⟩) (dCell_lt (hc i hil))).trans (hc i hil)
      obtain rfl : x = (i : Int) := by rw [← hk, e1]
      rw [hk] at e3
      rw [e3] at HS
      have i1 : (0 : Int) ≤ (i : Int) := by omega
      have i2 : (i : Int) < (ds.length : Int) := by omega
      generalize domsOf ds ms = L at *
      clear hx hxm hrg hg1 hb hlt hrg1 hset hml hlen hlen2 hk e1 e2 e3 hc HD HN hbx
      go_wp2_with (first
        | (at_mapUpdate; refine wp_setPut _ rfl _ _ _ rfl (w.heap.size + 1) L (d : Int) rfl hset1 rfl (by omega) rfl (by omega) ?_; intro w3 hset3 hg3; go_frame)
        | go_in)
      have hne1 : some b ≠ some (w.heap.size + 1) := fun e => by have := Option.some.inj e; have := dUnhide hbl; omega
      have hne2 : some (w.heap.size + 2) ≠ some (w.heap.size + 1) := fun e => by have := Option.some.inj e; omega
      have hrg3 := (dUnhide HR).kept hg3 hne1 hne2
      have HL3 := (dUnhide HR).left_kept hg3 hne1 hne2
      have hbx3 := (World.cell?_of_block (w' := w3) (a := ⟨w.heap.size, 0, none⟩) (hg3.block w.heap.size (dCell_lt hbx1) (by simp))).trans hbx1
      have hb3 : Below w.heap.size w w3 := hb1.grown hg3 hb1.size (fun j hj => by cases hj; omega)
      go_roundw
      case rel => exact ⟨_, hrg3, by rw [dUnhide HS]; exact hset3, hbx3, hb3⟩
      case measure => rw [HL3]; exact dUnhide HL
end Go.Proofs.Ytognmmmplmideaa
