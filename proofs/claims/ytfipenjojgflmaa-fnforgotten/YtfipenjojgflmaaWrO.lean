/- impl.WriterForget (printed by tools/mkwro.py). -/
import Derived.Test.YtfipenjojgflmaaWrN
import Derived.Deep.RegionHeld3
import Derived.Deep.DeepCutAuto
namespace Go.Proofs.Ytfipenjojgflmaa
open Go.ChangeShapes Go.WideShapes Go.ChangeAt Go.RowKit
set_option linter.unusedVariables false
set_option linter.unusedSimpArgs false
set_option maxRecDepth 100000

theorem blockOf_len (a : Option Addr) (n n' c : Nat) : blockOf (.slice a n c) = blockOf (.slice a n' c) := by cases a <;> rfl
set_option maxHeartbeats 4000000 in
theorem wordForget_any (W : World) (lo g n cap k : Nat) (rs : List (Nst Wd)) (x : Int) (ya : Option Addr) (yc : Nat) (yd : ByteArray) (yn : List Int) (yb : Bool) (hP : WPs W lo (.slice (some ⟨g, 0, none⟩) n cap) rs) (hk : k < rs.length) (hy : rs[k] = ⟨ya, yc, yd, yn, yb⟩) (hlo : lo ≤ W.heap.size) :
    Calls Try.prog 90 #[.agg #[.pointer (some ⟨g, k * 3, none⟩)], .int .i64 x] W fun e w' => e = .returned (.tuple #[]) ∧ WPs w' lo (.slice (some ⟨g, 0, none⟩) n cap) (rs.set k ⟨ya, yc, ⟨yd, lessL yn [x], yb⟩⟩) ∧ Below lo W w' ∧ ∀ j, j < W.heap.size → j ≠ g → (yn = [] ∨ j ≠ blockOf (.slice ya yn.length yc)) → w'.heap[j]? = W.heap[j]? := by
  have ba : ∀ (w : World) o, Below w.heap.size w (w.alloc o) := fun w o => (Below.refl _ _).alloc (Nat.le_refl _) o
  obtain ⟨g', cap', eg, hcg, hgb, hgl, htg⟩ := hP.head (by omega)
  simp only [Value.slice.injEq, Option.some.injEq, Addr.mk.injEq, and_true] at eg
  obtain ⟨rfl, -, rfl⟩ := eg
  have bA := belowThen (ba W (.cells #[.pointer (some ⟨g, k * 3, none⟩)] 110)) (ba _ (.cells #[.int .i64 x] 3))
  have X0 := (Bx.new W [.pointer (some ⟨g, k * 3, none⟩)] 110).below (ba _ (.cells #[.int .i64 x] 3))
  have Y0 := Bx.new (W.alloc (.cells #[.pointer (some ⟨g, k * 3, none⟩)] 110)) [.int .i64 x] 3
  rw [show (W.alloc (.cells #[.pointer (some ⟨g, k * 3, none⟩)] 110)).heap.size = W.heap.size + 1 from by simp] at Y0
  have hs0 : ((W.alloc (.cells #[.pointer (some ⟨g, k * 3, none⟩)] 110)).alloc (.cells #[.int .i64 x] 3)).heap.size = W.heap.size + 1 + 1 := by simp
  go_enter Try.func90, Try.ntmps90
  go_wp2_with fail
  generalize (W.alloc (.cells #[.pointer (some ⟨g, k * 3, none⟩)] 110)).alloc (.cells #[.int .i64 x] 3) = w0 at *
  have bd : Below W.heap.size W w0.drew := belowThen bA (Below.refl _ _).drew
  have P1 := hP.below bd
  obtain ⟨⟨-, c1, -⟩, f1, -⟩ := P1.cells hk
  obtain ⟨⟨-, c10, -⟩, -, -⟩ := (hP.below bA).cells hk
  have y0 : w0.drew.cell? ⟨W.heap.size + 1, 0, none⟩ = some (.int .i64 x) := Y0 0 _ rfl
  have q1 := hP.2.1 _ (List.getElem_mem hk)
  have q2 := P1.2.1 _ (List.getElem_mem hk)
  have q3 := hP.2.2.2 k hk
  rw [hy] at c1 c10 q1 q2 q3
  rw [htg] at q3
  unfold Sv at q1 q2 q3
  simp only at c1 c10 q1 q2 q3
  have hbl : yn = [] ∨ blockOf (.slice ya yn.length yc) ≠ W.heap.size + 1 := by
    rcases q1.bs.lt with h | h
    · exact .inl h
    · exact .inr (by omega)
  have CD := dHide (deleteN_any ya yc yn x (W.heap.size + 1) lo w0.drew q2 y0 hbl)
  have U : Hid (∀ (w5 : World) (row : Option Nat), w0.drew.grownBy w5 row → (row = none ∨ (yn ≠ [] ∧ row = some (blockOf (.slice ya yn.length yc)))) → OwnN w5 lo (.slice ya (lessL yn [x]).length yc) (lessL yn [x]) → WPs (w5.setCell ⟨g, k * 3 + 1, none⟩ (.slice ya (lessL yn [x]).length yc)) lo (.slice (some ⟨g, 0, none⟩) n cap) (rs.set k ⟨ya, yc, ⟨yd, lessL yn [x], yb⟩⟩)) := fun w5 row hg hrow hO =>
    P1.upd hk hg (by rw [hy]; exact hrow) ⟨ya, yc, ⟨yd, lessL yn [x], yb⟩⟩ hO (by
      by_cases hl : yn = []
      · left; simp only; rw [hl]; rfl
      · rw [hy]
        exact .inr (.inl ⟨hl, blockOf_len _ _ _ _⟩)) (by rw [hy]) (by rw [hy])
  have UL : Hid (∀ row, (row = none ∨ (yn ≠ [] ∧ row = some (blockOf (.slice ya yn.length yc)))) → row ≠ some g ∧ ∀ j, row = some j → lo ≤ j ∧ j < W.heap.size) := fun row hrow => by
    rcases hrow with rfl | ⟨h, rfl⟩
    · exact ⟨by simp, fun j h => by cases h⟩
    · refine ⟨fun e => (q3.resolve_left h) e.symm, fun j hj => ?_⟩
      cases hj
      exact ⟨q1.ge.resolve_left h, q1.bs.lt.resolve_left h⟩
  clear P1 hP hbl y0 q1 q2 q3
  have x0 := X0 0 _ rfl
  obtain ⟨ln, hln⟩ : ∃ ln, ln = lessL yn [x] := ⟨_, rfl⟩
  rw [← hln] at CD U
  have HLN := dHide hln
  clear hln
  refine wp_region_noPanic ?_
  refine wp_region_held_drew (S := fun W' => W'.cell? ⟨W.heap.size, 0, none⟩ = some (.pointer (some ⟨g, k * 3, none⟩))) (by kernel_rfl) (by first | exact x0 | exact x5 | exact set_other x5 (.inl (by omega)) | go_keep) (fun hHeld => ?_)
  refine wpAnyH_take (i := 0) (oi := { dst := some 4, op := Op.fieldAddr 110 (Operand.tmp 2) 0, type := 0, pos := "l08_writer.go:39", after := #[], guard := none }) (v := ?_) rfl (by kernel_rfl) (by kernel_rfl) (by kernel_rfl) (fun _ _ _ h => h) (Or.inl ⟨by rfl, ?_⟩) (by assumption) ?_
  rotate_left 1
  · intro w hSw
    (try dsimp only at hSw)
    first | (go_simp; done) | (go_simp; with_reducible rfl)
  try simp only [Act.put, List.setIfInBounds_toArray, List.set_cons_zero, List.set_cons_succ]
  refine wpAnyH_take (i := 1) (oi := { dst := some 5, op := Op.load 108 (Operand.tmp 4), type := 108, pos := "l08_writer.go:39", after := #[{ on := 0, ground := Ground.data }], guard := none }) (v := ?_) rfl (by kernel_rfl) (by kernel_rfl) (by kernel_rfl) (fun _ _ _ h => h) (Or.inl ⟨by rfl, ?_⟩) (by assumption) ?_
  rotate_left 1
  · intro w hSw
    (try dsimp only at hSw)
    first | (go_simp; done) | (go_simp; with_reducible rfl)
  try simp only [Act.put, List.setIfInBounds_toArray, List.set_cons_zero, List.set_cons_succ]
  refine wpAnyH_take (i := 2) (oi := { dst := some 6, op := Op.fieldAddr 110 (Operand.tmp 2) 0, type := 0, pos := "l08_writer.go:39", after := #[], guard := none }) (v := ?_) rfl (by kernel_rfl) (by kernel_rfl) (by kernel_rfl) (fun _ _ _ h => h) (Or.inl ⟨by rfl, ?_⟩) (by assumption) ?_
  rotate_left 1
  · intro w hSw
    (try dsimp only at hSw)
    first | (go_simp; done) | (go_simp; with_reducible rfl)
  try simp only [Act.put, List.setIfInBounds_toArray, List.set_cons_zero, List.set_cons_succ]
  refine wpAnyH_take (i := 3) (oi := { dst := some 7, op := Op.load 108 (Operand.tmp 6), type := 108, pos := "l08_writer.go:39", after := #[{ on := 2, ground := Ground.data }], guard := none }) (v := ?_) rfl (by kernel_rfl) (by kernel_rfl) (by kernel_rfl) (fun _ _ _ h => h) (Or.inl ⟨by rfl, ?_⟩) (by assumption) ?_
  rotate_left 1
  · intro w hSw
    (try dsimp only at hSw)
    first | (go_simp; done) | (go_simp; with_reducible rfl)
  try simp only [Act.put, List.setIfInBounds_toArray, List.set_cons_zero, List.set_cons_succ]
  refine wpAnyH_take (i := 4) (oi := { dst := some 8, op := Op.nilCheck (Operand.tmp 7), type := 0, pos := "l08_writer.go:39", after := #[{ on := 3, ground := Ground.data }], guard := none }) (v := ?_) rfl (by kernel_rfl) (by kernel_rfl) (by kernel_rfl) (fun _ _ _ h => h) (Or.inl ⟨by rfl, ?_⟩) (by assumption) ?_
  rotate_left 1
  · intro w hSw
    (try dsimp only at hSw)
    first | (go_simp; done) | (go_simp; with_reducible rfl)
  try simp only [Act.put, List.setIfInBounds_toArray, List.set_cons_zero, List.set_cons_succ]
  refine wpAnyH_take (i := 5) (oi := { dst := some 9, op := Op.fieldAddr 35 (Operand.tmp 8) 1, type := 0, pos := "l08_writer.go:39", after := #[{ on := 4, ground := Ground.data }], guard := none }) (v := ?_) rfl (by kernel_rfl) (by kernel_rfl) (by kernel_rfl) (fun _ _ _ h => h) (Or.inl ⟨by rfl, ?_⟩) (by assumption) ?_
  rotate_left 1
  · intro w hSw
    (try dsimp only at hSw)
    first | (go_simp; done) | (go_simp; with_reducible rfl)
  try simp only [Act.put, List.setIfInBounds_toArray, List.set_cons_zero, List.set_cons_succ]
  refine wpAnyH_take (i := 7) (oi := { dst := some 11, op := Op.makeFunc (Fn.func 106) #[] #[Operand.tmp 3], type := 107, pos := "l08_writer.go:39", after := #[], guard := none }) (v := ?_) rfl (by kernel_rfl) (by kernel_rfl) (by kernel_rfl) (fun _ _ _ h => h) (Or.inl ⟨by rfl, ?_⟩) (by assumption) ?_
  rotate_left 1
  · intro w hSw
    (try dsimp only at hSw)
    first | (go_simp; done) | (go_simp; with_reducible rfl)
  try simp only [Act.put, List.setIfInBounds_toArray, List.set_cons_zero, List.set_cons_succ]
  refine wpAnyH_ready (rs := [6]) (by kernel_rfl) (by simp) ?_
  refine AllReadyH.cons (o := { dst := some 10, op := Op.load 24 (Operand.tmp 9), type := 24, pos := "l08_writer.go:39", after := #[{ on := 5, ground := Ground.data }], guard := none }) rfl (fun K hK => ?_) AllReadyH.nil
  go_simp
  refine hK.out _ _ (by first | exact x0 | exact x5 | exact set_other x5 (.inl (by omega)) | go_keep) (fun hHeld => ?_)
  clear hK K
  try simp only [Act.put, List.setIfInBounds_toArray, List.set_cons_zero, List.set_cons_succ]
  refine wpAnyH_ready (rs := [8]) (by kernel_rfl) (by simp) ?_
  refine AllReadyH.cons (o := { dst := some 12, op := Op.call { callee := Callee.value (Operand.func 105), args := #[Operand.tmp 10, Operand.tmp 11], argTypes := #[24, 107] }, type := 24, pos := "l08_writer.go:39", after := #[{ on := 6, ground := Ground.data }, { on := 7, ground := Ground.data }], guard := none }) rfl (fun K hK => ?_) AllReadyH.nil
  go_simp
  refine (dUnhide CD).mono ?_
  rintro e w5 ⟨rfl, O5, row, G5, hrow⟩
  have HP5 := dHide (dUnhide U w5 row G5 hrow O5)
  obtain ⟨r1, r2⟩ := dUnhide UL row hrow
  have x5 : w5.cell? ⟨W.heap.size, 0, none⟩ = some (.pointer (some ⟨g, k * 3, none⟩)) := (World.cell?_of_block (a := ⟨W.heap.size, 0, none⟩) (G5.block W.heap.size (by simp; omega) (fun e => by have := r2 _ e.symm; omega))).trans x0
  have c5 : w5.cell? ⟨g, k * 3 + 1, none⟩ = some (.slice ya yn.length yc) := (World.cell?_of_block (a := ⟨g, k * 3 + 1, none⟩) (G5.block g (by simp; omega) (fun e => r1 e.symm))).trans c1
  have f5 : w5.frozen? ⟨g, k * 3 + 1, none⟩ = false := (World.frozen?_of_block (a := ⟨g, k * 3 + 1, none⟩) (G5.block g (by simp; omega) (fun e => r1 e.symm))).trans f1
  have B5 : Hid (Below lo W w5) := (bd.mono hlo).grown G5 (by simp; omega) (fun j hj => (r2 j hj).1)
  have FR : Hid (∀ j, j < W.heap.size → (yn = [] ∨ j ≠ blockOf (.slice ya yn.length yc)) → w5.heap[j]? = W.heap[j]?) := fun j hj hn => (G5.block j (by simp; omega) (fun e => by
    rcases hrow with h | ⟨h, h'⟩
    · rw [h] at e; cases e
    · rw [h'] at e
      exact (hn.resolve_left h) (Option.some.inj e))).trans (bd.block j hj)
  clear O5 CD U UL
  (try go_wp2_with fail)
  refine hK.out _ _ (by first | exact x0 | exact x5 | exact set_other x5 (.inl (by omega)) | go_keep) (fun hHeld => ?_)
  clear hK K
  try simp only [Act.put, List.setIfInBounds_toArray, List.set_cons_zero, List.set_cons_succ]
  refine wpAnyH_take (i := 9) (oi := { dst := some 13, op := Op.nilCheck (Operand.tmp 5), type := 0, pos := "l08_writer.go:39", after := #[{ on := 1, ground := Ground.data }, { on := 0, ground := Ground.phase }, { on := 1, ground := Ground.phase }, { on := 2, ground := Ground.phase }, { on := 3, ground := Ground.phase }, { on := 4, ground := Ground.phase }, { on := 5, ground := Ground.phase }, { on := 6, ground := Ground.phase }, { on := 7, ground := Ground.phase }, { on := 8, ground := Ground.phase }], guard := none }) (v := ?_) rfl (by kernel_rfl) (by kernel_rfl) (by kernel_rfl) (fun _ _ _ h => h) (Or.inl ⟨by rfl, ?_⟩) (by assumption) ?_
  rotate_left 1
  · intro w hSw
    (try dsimp only at hSw)
    first | (go_simp; done) | (go_simp; with_reducible rfl)
  try simp only [Act.put, List.setIfInBounds_toArray, List.set_cons_zero, List.set_cons_succ]
  refine wpAnyH_take (i := 10) (oi := { dst := some 14, op := Op.fieldAddr 35 (Operand.tmp 13) 1, type := 0, pos := "l08_writer.go:39", after := #[{ on := 9, ground := Ground.data }, { on := 0, ground := Ground.phase }, { on := 1, ground := Ground.phase }, { on := 2, ground := Ground.phase }, { on := 3, ground := Ground.phase }, { on := 4, ground := Ground.phase }, { on := 5, ground := Ground.phase }, { on := 6, ground := Ground.phase }, { on := 7, ground := Ground.phase }, { on := 8, ground := Ground.phase }], guard := none }) (v := ?_) rfl (by kernel_rfl) (by kernel_rfl) (by kernel_rfl) (fun _ _ _ h => h) (Or.inl ⟨by rfl, ?_⟩) (by assumption) ?_
  rotate_left 1
  · intro w hSw
    (try dsimp only at hSw)
    first | (go_simp; done) | (go_simp; with_reducible rfl)
  try simp only [Act.put, List.setIfInBounds_toArray, List.set_cons_zero, List.set_cons_succ]
  refine wpAnyH_ready (rs := [11]) (by kernel_rfl) (by simp) ?_
  refine AllReadyH.cons (o := { dst := none, op := Op.store 24 (Operand.tmp 14) (Operand.tmp 12), type := 0, pos := "l08_writer.go:39", after := #[{ on := 10, ground := Ground.data }, { on := 8, ground := Ground.data }, { on := 8, ground := Ground.chain }, { on := 0, ground := Ground.phase }, { on := 1, ground := Ground.phase }, { on := 2, ground := Ground.phase }, { on := 3, ground := Ground.phase }, { on := 4, ground := Ground.phase }, { on := 5, ground := Ground.phase }, { on := 6, ground := Ground.phase }, { on := 7, ground := Ground.phase }, { on := 8, ground := Ground.phase }], guard := none }) rfl (fun K hK => ?_) AllReadyH.nil
  go_simp
  refine hK.out _ _ (by first | exact x0 | exact x5 | exact set_other x5 (.inl (by omega)) | go_keep) (fun hHeld => ?_)
  clear hK K
  try simp only [Act.put, List.setIfInBounds_toArray, List.set_cons_zero, List.set_cons_succ]
  refine wpAnyH_done (by kernel_rfl) ?_ _
  refine NoPanic.normal ?_
  go_wp2_with fail
  go_returns
  have e9 := dUnhide HLN
  rw [← e9]
  exact ⟨rfl, dUnhide HP5, (dUnhide B5).setCell (p := ⟨g, k * 3 + 1, none⟩) hgb _, fun j hj hjg hn => (Below.heap_setCell _ _ _ j (by simp only; exact hjg)).trans (dUnhide FR j hj hn)⟩
/-- The node is forgotten of those words that were open among the first t. -/
def ForgO (x : Int) (ms : List Wd) (t : Nat) (rs : List (Nst Wd)) : Prop := rs.length = ms.length ∧ ∀ i (h : i < rs.length) (h' : i < ms.length), (i ∈ (opI ms ms.length).take t → rs[i].m = forgW x ms[i]) ∧ (i ∉ (opI ms ms.length).take t → rs[i].m = ms[i])
theorem mem_opI {ms : List Wd} {k i : Nat} (hk : k ≤ ms.length) : i ∈ opI ms k ↔ ∃ h : i < ms.length, i < k ∧ ms[i].done = false := by
  unfold opI
  rw [List.mem_filter, List.mem_range]
  constructor
  · rintro ⟨h1, h2⟩
    refine ⟨by omega, h1, ?_⟩
    rw [getD_lt _ (show i < ms.length by omega)] at h2
    simpa using h2
  · rintro ⟨h, h1, h2⟩
    refine ⟨h1, ?_⟩
    rw [getD_lt _ h, h2]
    rfl
theorem opI_nodup (ms : List Wd) (k : Nat) : (opI ms k).Nodup := List.Nodup.sublist List.filter_sublist List.nodup_range
theorem forgW_done {x : Int} {e : Wd} (h : e.done = true) : forgW x e = e := by
  unfold forgW
  rw [h]
  simp only [if_true]
  cases e
  simp only at h
  rw [h]
theorem forgW_open {x : Int} {e : Wd} (h : e.done = false) : forgW x e = ⟨e.data, lessL e.acks [x], false⟩ := by
  unfold forgW
  rw [h]
  rfl
theorem ForgO.start {x : Int} {ms : List Wd} {rs : List (Nst Wd)} (h : rs.map Nst.m = ms) : ForgO x ms 0 rs := by
  subst h
  exact ⟨by simp, fun i h h' => ⟨fun h => by simp at h, fun _ => by simp⟩⟩
theorem ForgO.fin {x : Int} {ms : List Wd} {rs : List (Nst Wd)} (h : ForgO x ms (opI ms ms.length).length rs) : rs.map Nst.m = ms.map (forgW x) := by
  have hT : (opI ms ms.length).take (opI ms ms.length).length = opI ms ms.length := List.take_of_length_le (Nat.le_refl _)
  apply List.ext_getElem
  · simp [h.1]
  · intro i h1 h2
    simp only [List.getElem_map]
    have hi : i < rs.length := by simpa using h1
    have hi' : i < ms.length := by have := h.1; omega
    have q := h.2 i hi hi'
    rw [hT] at q
    by_cases e : i ∈ opI ms ms.length
    · exact q.1 e
    · rw [q.2 e, forgW_done]
      cases hd : ms[i].done with
      | true => rfl
      | false => exact absurd ((mem_opI (Nat.le_refl _)).2 ⟨hi', hi', hd⟩) e
theorem ForgO.step {x : Int} {ms : List Wd} {t : Nat} {rs : List (Nst Wd)} (h : ForgO x ms t rs) (ht : t < (opI ms ms.length).length) {k : Nat} (hk : (opI ms ms.length)[t] = k) (hkl : k < rs.length) (ya : Option Addr) (yc : Nat) {yd : ByteArray} {yn : List Int} {yb : Bool} (hy : rs[k].m = ⟨yd, yn, yb⟩) : ForgO x ms (t + 1) (rs.set k ⟨ya, yc, ⟨yd, lessL yn [x], yb⟩⟩) := by
  have hT : (opI ms ms.length).take (t + 1) = (opI ms ms.length).take t ++ [k] := by rw [List.take_succ_eq_append_getElem ht, hk]
  have hkm : k < ms.length := by have := h.1; omega
  have hin : k ∈ opI ms ms.length := by rw [← hk]; exact List.getElem_mem ht
  have hd := ((mem_opI (Nat.le_refl _)).1 hin).2.2
  have hnot : k ∉ (opI ms ms.length).take t := fun hm => by
    obtain ⟨i, hi, e⟩ := List.mem_iff_getElem.1 hm
    rw [List.length_take] at hi
    rw [List.getElem_take, ← hk] at e
    exact List.pairwise_iff_getElem.1 (opI_nodup ms ms.length) i t (by omega) ht (by omega) e
  refine ⟨by rw [List.length_set]; exact h.1, fun i hi hi' => ?_⟩
  have hi2 : i < rs.length := by rw [List.length_set] at hi; exact hi
  rw [hT]
  by_cases e : i = k
  · subst e
    rw [List.getElem_set_self]
    refine ⟨fun _ => ?_, fun hn => absurd (by simp) hn⟩
    have q := (h.2 i hi2 hi').2 hnot
    rw [hy] at q
    rw [← q] at hd ⊢
    rw [forgW_open hd]
    simp only at hd
    rw [hd]
  · rw [List.getElem_set_ne (Ne.symm e)]
    have q := h.2 i hi2 hi'
    exact ⟨fun hm => q.1 (by rcases List.mem_append.1 hm with h | h; exact h; exact absurd (by simpa using h) e), fun hm => q.2 fun h => hm (List.mem_append.2 (.inl h))⟩
set_option maxHeartbeats 8000000 in
theorem winForget_any (W : World) (lo b : Nat) (ep cop : Int) (cs u : Value) (ms : List Wd) (x : Int) (hW : Wn W lo b ep cs cop u ms) (hl : ms.length ≤ 60) (hlo : lo ≤ W.heap.size) :
    Calls Try.prog 60 #[.pointer (some ⟨b, 1, none⟩), .int .i64 x] W fun e w' => e = .returned (.tuple #[]) ∧ Wn w' lo b ep cs cop u (ms.map (forgW x)) ∧ Below lo W w' := by
  have ba : ∀ (w : World) o, Below w.heap.size w (w.alloc o) := fun w o => (Below.refl _ _).alloc (Nat.le_refl _) o
  obtain ⟨X0, r0, m1, n2, n3, n4, n5, n6, n7⟩ := hW
  have hP0 : WPs W lo u r0 := ⟨n2, n3, n4, n5⟩
  have el : r0.length = ms.length := by rw [← m1, List.length_map]
  obtain ⟨a, c, rfl⟩ : ∃ a c, u = .slice a r0.length c := ApR.slice elemW n2
  obtain ⟨g, ha⟩ : ∃ g, r0 = [] ∨ a = some ⟨g, 0, none⟩ := by
    rcases Nat.eq_zero_or_pos r0.length with h | h
    · exact ⟨0, .inl (List.length_eq_zero_iff.1 h)⟩
    · obtain ⟨g, cap', eg, -⟩ := hP0.head h
      simp only [Value.slice.injEq] at eg
      exact ⟨g, .inr eg.1⟩
  have c3 := (X0.2 3 _ rfl).1
  have CO := dHide (winOpen_any b 1 g 0 c a r0 W c3 (ApR.own elemW n2).rw ha (by omega))
  have hob := opI_le ms ms.length
  rw [m1, el] at CO
  rw [el] at hP0 n6 X0
  rw [el]
  have hlt : b < W.heap.size := X0.lt
  have L0 : Hid (∀ p ∈ r0, p.m.acks = [] ∨ (blockOf (Sv Wd.acks p) < W.heap.size ∧ blockOf (Sv Wd.acks p) ≠ b)) := fun p hp => by
    rcases (n3 p hp).bs.lt with h | h
    · exact .inl h
    · rcases n7 p hp with h' | h'
      · exact .inl h'
      · exact .inr ⟨h, h'⟩
  have F0 := dHide (ForgO.start (x := x) m1)
  have HP0 := dHide hP0
  have HX0 := dHide X0
  have N6 := dHide n6
  have HG := dHide ha
  have GL : Hid (∀ g', a = some ⟨g', 0, none⟩ → 0 < ms.length → g' < W.heap.size ∧ g' ≠ b ∧ lo ≤ g') := fun g' e h => by
    obtain ⟨g2, cap', eg, -, hb2, hl2, ht2⟩ := hP0.head (by omega)
    simp only [Value.slice.injEq] at eg
    rw [e] at eg
    have e3 : g' = g2 := by have := Option.some.inj eg.1; cases this; rfl
    subst e3
    exact ⟨hl2, fun e => n6 (by rw [ht2, e]), hb2⟩
  clear hP0 n2 n3 n4 n5 n7 n6 c3 m1 X0 ha
  go_enter Try.func60, Try.ntmps60
  go_wp2_with fail
  refine (dUnhide CO).mono ?_
  rintro e w1 ⟨⟨u1, rfl, A1⟩, b1⟩
  obtain ⟨oa, oc, rfl⟩ := ApR.slice elemO A1
  have eL : ((opI ms ms.length).map (adW g 0)).length = (opI ms ms.length).length := by simp
  rw [eL] at A1
  rw [eL]
  have AC : Hid (∀ t (h : t < (opI ms ms.length).length), ∃ ob oo, oa = some ⟨ob, oo, none⟩ ∧ W.heap.size ≤ ob ∧ ob < w1.heap.size ∧ w1.cell? ⟨ob, oo + t, none⟩ = some (.pointer (some (adW g 0 (opI ms ms.length)[t])))) := fun t ht => by
    obtain ⟨-, a', c', e', -, h⟩ := ApR.own elemO A1
    simp only [Value.slice.injEq] at e'
    obtain ⟨ob, oo, ea, hb, hce⟩ := orR_of_lt h (show t < ((opI ms ms.length).map (adW g 0)).length by simpa using ht)
    have q := (hce t (by simpa using ht) 0 _ rfl).1
    simp only [Nat.mul_one, Nat.add_zero, List.getElem_map] at q
    exact ⟨ob, oo, by rw [e'.1, ea], hb, dCell_lt q, q⟩
  have P1 := dHide ((dUnhide HP0).below b1)
  have X1 := dHide ((dUnhide HX0).below b1)
  have s1 := b1.size
  have B1 := b1.mono hlo
  clear CO A1 eL HP0 HX0
  go_wp2
  go_loopw [9] (fun y wr => ∃ (t : Nat) (rs : List (Nst Wd)), y = .int .i64 (t : Int) ∧ t ≤ (opI ms ms.length).length ∧ Hid (WPs wr lo (.slice a ms.length c) rs) ∧ Hid (ForgO x ms t rs) ∧ Hid (∀ p ∈ rs, p.m.acks = [] ∨ (blockOf (Sv Wd.acks p) < W.heap.size ∧ blockOf (Sv Wd.acks p) ≠ b)) ∧ Hid (BxZ wr lo b [.int .i64 ep, cs, .int .i64 cop, .slice a ms.length c]) ∧ Hid (∀ j, W.heap.size ≤ j → j < w1.heap.size → wr.heap[j]? = w1.heap[j]?) ∧ w1.heap.size ≤ wr.heap.size ∧ Below lo W wr) (fun y _ => (opI ms ms.length).length - (intOf y).toNat)
  case atStart => exact ⟨0, r0, rfl, Nat.zero_le _, P1, F0, L0, X1, fun _ _ _ => rfl, Nat.le_refl _, B1⟩
  case round =>
    obtain ⟨t, rs, rfl, ht, hP, hF, hL, hX, hQ, hsz, hb⟩ := hrel
    clear P1 F0 L0 X1 B1
    have hrl := (dUnhide hF).1
    by_cases hlt2 : (t : Int) < ((opI ms ms.length).length : Int)
    · have htl : t < (opI ms ms.length).length := by omega
      obtain ⟨hk0, hk1, hd⟩ := (mem_opI (Nat.le_refl _)).1 (List.getElem_mem htl)
      obtain ⟨ob, oo, rfl, ho1, ho2, hoc⟩ := dUnhide AC t htl
      have ST := dHide fun ya yc yd yn yb (hy : rs[(opI ms ms.length)[t]]'(by omega) = ⟨ya, yc, ⟨yd, yn, yb⟩⟩) => (dUnhide hF).step htl rfl (by omega) ya yc (yd := yd) (yn := yn) (yb := yb) (by rw [hy])
      obtain ⟨k, hk⟩ : ∃ k, (opI ms ms.length)[t] = k := ⟨_, rfl⟩
      simp only [hk] at hk0 hk1 hd hoc ST
      have hkl : k < rs.length := by omega
      have ea : a = some ⟨g, 0, none⟩ := (dUnhide HG).resolve_left fun e => by rw [e] at el; simp at el; omega
      subst ea
      obtain ⟨hg1, hg2, hg3⟩ := dUnhide GL g rfl (by omega)
      obtain ⟨⟨ya, yc, yd, yn, yb⟩, hy⟩ : ∃ y, rs[k] = y := ⟨_, rfl⟩
      have hoc' : wr.cell? ⟨ob, oo + t, none⟩ = some (.pointer (some ⟨g, k * 3, none⟩)) := by
        have := (World.cell?_of_block (a := ⟨ob, oo + t, none⟩) (dUnhide hQ ob ho1 ho2)).trans hoc
        simpa [adW] using this
      have bA := ba wr (.cells #[.pointer (some ⟨g, k * 3, none⟩)] 110)
      have hbl := dUnhide hL _ (List.getElem_mem hkl)
      rw [hy] at hbl
      unfold Sv at hbl
      simp only at hbl
      have CF := dHide (wordForget_any (wr.alloc (.cells #[.pointer (some ⟨g, k * 3, none⟩)] 110)) lo g ms.length c k rs x ya yc yd yn yb ((dUnhide hP).below bA) hkl hy (by simp; omega))
      have F2 := dHide (dUnhide ST ya yc yd yn yb hy)
      have L2 : Hid (∀ p ∈ rs.set k ⟨ya, yc, ⟨yd, lessL yn [x], yb⟩⟩, p.m.acks = [] ∨ (blockOf (Sv Wd.acks p) < W.heap.size ∧ blockOf (Sv Wd.acks p) ≠ b)) := fun p hp => by
        obtain ⟨i, hi, rfl⟩ := List.mem_iff_getElem.1 hp
        have hi2 : i < rs.length := by rw [List.length_set] at hi; exact hi
        by_cases e : i = k
        · subst e
          rw [List.getElem_set_self]
          rcases hbl with h | h
          · left; simp only; rw [h]; rfl
          · right
            have e9 : blockOf (Sv Wd.acks (⟨ya, yc, ⟨yd, lessL yn [x], yb⟩⟩ : Nst Wd)) = blockOf (.slice ya yn.length yc) := blockOf_len _ _ _ _
            rw [e9]; exact h
        · rw [List.getElem_set_ne (Ne.symm e)]
          exact dUnhide hL _ (List.getElem_mem hi2)
      have FR : Hid (∀ w2 : World, (∀ j, j < (wr.alloc (.cells #[.pointer (some ⟨g, k * 3, none⟩)] 110)).heap.size → j ≠ g → (yn = [] ∨ j ≠ blockOf (.slice ya yn.length yc)) → w2.heap[j]? = (wr.alloc (.cells #[.pointer (some ⟨g, k * 3, none⟩)] 110)).heap[j]?) → BxZ w2 lo b [.int .i64 ep, cs, .int .i64 cop, .slice (some ⟨g, 0, none⟩) ms.length c] ∧ ∀ j, W.heap.size ≤ j → j < w1.heap.size → w2.heap[j]? = w1.heap[j]?) := fun w2 hf => by
        refine ⟨?_, fun j h1 h2 => ?_⟩
        · have hbX := ((dUnhide hX).below bA)
          have hbe := hf b (by simp; omega) (Ne.symm hg2) (by
            rcases hbl with h | h
            · exact .inl h
            · exact .inr (Ne.symm h.2))
          exact ⟨hbX.1, fun i v hv => ⟨(World.cell?_of_block (a := ⟨b, i, none⟩) hbe).trans (hbX.2 i v hv).1, (World.frozen?_of_block (a := ⟨b, i, none⟩) hbe).trans (hbX.2 i v hv).2⟩⟩
        · have q := hf j (by simp; omega) (by omega) (by
            rcases hbl with h | h
            · exact .inl h
            · exact .inr (by omega))
          rw [q, Below.heap_alloc _ _ _ (by omega)]
          exact dUnhide hQ j h1 h2
      have hb1 := hb.alloc (by omega) (.cells #[.pointer (some ⟨g, k * 3, none⟩)] 110)
      have hsz1 : wr.heap.size + 1 = (wr.alloc (.cells #[.pointer (some ⟨g, k * 3, none⟩)] 110)).heap.size := by simp
      clear hP hF hL hX hQ AC ST hoc hy hbl hd hk HG
      go_wp2_with fail
      generalize wr.alloc (.cells #[.pointer (some ⟨g, k * 3, none⟩)] 110) = wa at *
      refine (dUnhide CF).mono ?_
      rintro e w2 ⟨rfl, P2, b2, hf2⟩
      have s2 := b2.size
      obtain ⟨X2, Q2⟩ := dUnhide FR w2 hf2
      have HP2 := dHide P2
      have HX2 := dHide X2
      have HQ2 := dHide Q2
      have B2 := hb1.trans b2
      clear CF FR hf2 P2 X2 Q2 hoc' bA b2 hb1
      go_wp2
      go_roundw
      case rel => exact ⟨t + 1, _, by go_num, by omega, HP2, F2, L2, HX2, HQ2, by omega, B2⟩
      case measure => simp [intOf]; omega
    · have et : t = (opI ms ms.length).length := by omega
      subst et
      have E := dHide ((dUnhide hF).fin)
      clear AC hQ hF
      go_wp2
      go_returns
      exact ⟨rfl, ⟨dUnhide hX, rs, dUnhide E, (dUnhide hP).1, (dUnhide hP).2.1, (dUnhide hP).2.2.1, (dUnhide hP).2.2.2, dUnhide N6, fun p hp => (dUnhide hL p hp).imp id fun h => h.2⟩, hb⟩
end Go.Proofs.Ytfipenjojgflmaa
