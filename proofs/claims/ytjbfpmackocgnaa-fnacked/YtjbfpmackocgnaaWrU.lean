/- impl: a node is told of a word (printed by tools/mkwru.py). -/
import Derived.Test.YtjbfpmackocgnaaWrT
import Derived.Test.YtjbfpmackocgnaaWrJ
import Derived.Test.YtjbfpmackocgnaaWrR
import Derived.Test.YtjbfpmackocgnaaShelf
namespace Go.Proofs.Ytjbfpmackocgnaa
open Go.ChangeShapes Go.WideShapes Go.ChangeAt Go.RowKit
set_option linter.unusedVariables false
set_option linter.unusedSimpArgs false
set_option maxRecDepth 100000

theorem putA_at {y : Int} {xs : List Int} (h : xs.Pairwise (· < ·)) (hy : y ∉ xs) : xs.take (xs.countP (· < y)) ++ y :: xs.drop (xs.countP (· < y)) = putA y xs := by
  induction xs with
  | nil => rfl
  | cons a l ih =>
    rw [List.pairwise_cons] at h
    have hya : y ≠ a := fun e => hy (by simp [e])
    have hyl : y ∉ l := fun e => hy (by simp [e])
    unfold putA
    by_cases hlt : y < a
    · have h0 : (a :: l).countP (· < y) = 0 := by
        rw [List.countP_eq_zero]
        intro b hb
        rcases List.mem_cons.1 hb with rfl | hb
        · simp; omega
        · have := h.1 b hb
          simp; omega
      rw [h0, if_pos hlt]
      rfl
    · have h1 : (a :: l).countP (· < y) = l.countP (· < y) + 1 := by
        rw [List.countP_cons, if_pos (by simp; omega)]
      rw [h1, if_neg hlt, List.take_succ_cons, List.drop_succ_cons, List.cons_append, ih h.2 hyl]
theorem search_any (a : Option Addr) (c : Nat) (xs : List Int) (x : Int) (w : World) (hv : Ns w (.slice a xs.length c) xs) (hs : xs.Pairwise (· < ·)) (hl : xs.length ≤ 1048576) :
    Calls Try.prog 149 #[.slice a xs.length c, .int .i64 x] w fun e w' => e = .returned (.tuple #[.int .i64 ((xs.countP (· < x) : Nat) : Int), .bool (xs.contains x)]) ∧ Below w.heap.size w w' := by
  have bN : ∀ q, Below w.heap.size w (w.drewN q) := fun q => ⟨rfl, rfl, rfl, Nat.le_refl _, fun _ _ => rfl⟩
  obtain ⟨h0, a', c', e, hcap, h⟩ := hv
  simp only [Value.slice.injEq] at e
  obtain ⟨rfl, -, rfl⟩ := e
  by_cases he : xs = []
  · subst he
    refine (Try.slices_BinarySearch_int_empty a c x w).mono ?_
    rintro e w' ⟨rfl, rfl⟩
    exact ⟨rfl, Below.refl _ _⟩
  · obtain ⟨b, off, rfl, hc⟩ := h.resolve_left he
    have C := Try.slices_BinarySearch_int b off xs.length c xs x w (Nat.le_refl _) (by omega) (fun j hj => by
      rw [hc j hj, List.getD_eq_getElem?_getD, List.getElem?_eq_getElem hj]; rfl) (by rw [List.take_length]; exact hs.imp (fun h => Int.le_of_lt h))
    rw [List.take_length] at C
    refine C.mono ?_
    rintro e w' ⟨rfl, q, rfl⟩
    exact ⟨rfl, bN q⟩
theorem touch_at {α : Type} {T : TypeId} {sz : Nat} {cl : α → List Value} {w : World} {base : Nat} {v : Value} {xs : List α} (h : ApR T sz cl w base v xs) (hx : xs ≠ []) : touch v = some (blockOf v) := by
  have hp : 0 < xs.length := List.length_pos_iff.2 hx
  rcases h with ⟨rfl, -⟩ | h'
  · exact absurd rfl hx
  · rcases h'.2 with ⟨-, h0⟩ | ⟨g, cap, cur, rfl, -, -, hnc, -⟩
    · omega
    · have hc : cap ≠ 0 := by omega
      simp [touch, blockOf, hc]
/-- What an insertion makes of the words. -/
theorem ack_ins {w w5 : World} {lo g n cap k : Nat} {rs : List (Nst Wd)} {ya : Option Addr} {yc : Nat} {yd : ByteArray} {yn : List Int} {yb : Bool} (hP : WPs w lo (.slice (some ⟨g, 0, none⟩) n cap) rs) (hk : k < rs.length) (hy : rs[k] = ⟨ya, yc, yd, yn, yb⟩) (hR : RmN w lo (.slice ya yn.length yc) yn) {ns : List Int} (hns : ns ≠ []) {pa : Option Addr} {pc : Nat}
    (hA : ApI w5 lo (.slice pa ns.length pc) ns) (hg : w.grownBy w5 (touch (.slice ya yn.length yc))) (ht : touch (.slice pa ns.length pc) = touch (.slice ya yn.length yc) ∨ ∀ k, touch (.slice pa ns.length pc) = some k → w.heap.size ≤ k) :
    WPs (w5.setCell ⟨g, k * 3 + 1, none⟩ (.slice pa ns.length pc)) lo (.slice (some ⟨g, 0, none⟩) n cap) (rs.set k ⟨pa, pc, ⟨yd, ns, yb⟩⟩) ∧ ((yn ≠ [] ∧ blockOf (.slice pa ns.length pc) = blockOf (.slice ya yn.length yc)) ∨ w.heap.size ≤ blockOf (.slice pa ns.length pc)) := by
  have hto := touch_at hA hns
  have hpb : (yn ≠ [] ∧ blockOf (.slice pa ns.length pc) = blockOf (.slice ya yn.length yc)) ∨ w.heap.size ≤ blockOf (.slice pa ns.length pc) := by
    rcases ht with h | h
    · exact .inl (hR.touch (h.symm.trans hto))
    · exact .inr (h _ hto)
  refine ⟨hP.upd hk hg ?_ ⟨pa, pc, ⟨yd, ns, yb⟩⟩ (ApR.own elemN hA).n1 (.inr ?_) (by rw [hy]) (by rw [hy]), hpb⟩
  · rw [hy]
    cases e : touch (.slice ya yn.length yc) with
    | none => exact .inl rfl
    | some j =>
      obtain ⟨h1, h2⟩ := hR.touch e
      exact .inr ⟨h1, by rw [h2]; rfl⟩
  · rw [hy]
    exact hpb
theorem WPs.done' {w : World} {base g n cap k : Nat} {rs : List (Nst Wd)} {p : Nst Wd} (h : WPs w base (.slice (some ⟨g, 0, none⟩) n cap) (rs.set k p)) (hk : k < rs.length) (x : Bool) : WPs (w.setCell ⟨g, k * 3 + 2, none⟩ (.bool x)) base (.slice (some ⟨g, 0, none⟩) n cap) (rs.set k ⟨p.a, p.c, ⟨p.m.data, p.m.acks, x⟩⟩) := by
  have q := h.done (k := k) (by rw [List.length_set]; exact hk) x
  rw [List.getElem_set_self, List.set_set] at q
  exact q
theorem WPs.cells' {w : World} {base g n cap k : Nat} {rs : List (Nst Wd)} {p : Nst Wd} (h : WPs w base (.slice (some ⟨g, 0, none⟩) n cap) (rs.set k p)) (hk : k < rs.length) : w.cell? ⟨g, k * 3 + 1, none⟩ = some (.slice p.a p.m.acks.length p.c) ∧ w.cell? ⟨g, k * 3 + 2, none⟩ = some (.bool p.m.done) ∧ w.frozen? ⟨g, k * 3 + 2, none⟩ = false := by
  obtain ⟨⟨-, q1, q2⟩, -, f2⟩ := h.cells (k := k) (by rw [List.length_set]; exact hk)
  rw [List.getElem_set_self] at q1 q2
  exact ⟨q1, q2, f2⟩
/-- The words when the node is among those of one of them. -/
def AckMid (W : World) (lo g n cap k : Nat) (rs : List (Nst Wd)) (ya : Option Addr) (yc : Nat) (yd : ByteArray) (yn ns : List Int) (yb : Bool) (cs : Value) (cop : Int) (wx : World) (pa : Option Addr) (pc : Nat) : Prop :=
  WPs wx lo (.slice (some ⟨g, 0, none⟩) n cap) (rs.set k ⟨pa, pc, ⟨yd, ns, yb⟩⟩) ∧ ((yn ≠ [] ∧ blockOf (.slice pa ns.length pc) = blockOf (.slice ya yn.length yc)) ∨ W.heap.size ≤ blockOf (.slice pa ns.length pc)) ∧ Below lo W wx ∧
    (∀ j, j < W.heap.size → j ≠ g → (yn = [] ∨ j ≠ blockOf (.slice ya yn.length yc)) → wx.heap[j]? = W.heap[j]?) ∧ (wx.cell? ⟨W.heap.size, 0, none⟩ = some (.pointer (some ⟨g, k * 3, none⟩)) ∧ wx.cell? ⟨W.heap.size + 1, 0, none⟩ = some cs ∧ wx.cell? ⟨W.heap.size + 1, 1, none⟩ = some (.int .i64 cop)) ∧ W.heap.size + 2 ≤ wx.heap.size
set_option maxHeartbeats 8000000 in
theorem wordAck_any (W : World) (lo g n cap k : Nat) (rs : List (Nst Wd)) (x cop : Int) (ds : List Int) (ca : Option Addr) (cc : Nat) (ya : Option Addr) (yc : Nat) (yd : ByteArray) (yn : List Int) (yb : Bool) (hP : WPs W lo (.slice (some ⟨g, 0, none⟩) n cap) rs) (hk : k < rs.length) (hy : rs[k] = ⟨ya, yc, yd, yn, yb⟩) (hR : RmN W lo (.slice ya yn.length yc) yn) (hlo : lo ≤ W.heap.size)
    (hN : ∀ W', Below lo W W' → Ns W' (.slice ca ds.length cc) ds) (had : allInt ds) (hay : allInt yn) (hax : okInt x) (hs : yn.Pairwise (· < ·)) (hl : yn.length ≤ 1000000) (hld : ds.length ≤ 1048576) (c0 : -9223372036854775808 ≤ cop) (c1 : cop ≤ 9223372036854775807) :
    Calls Try.prog 119 #[.agg #[.pointer (some ⟨g, k * 3, none⟩)], .agg #[.slice ca ds.length cc, .int .i64 cop], .int .i64 x] W fun e w' => e = .returned (.tuple #[]) ∧ ∃ pa pc b, (b = true ↔ holdsP ds cop (putL x yn)) ∧ WPs w' lo (.slice (some ⟨g, 0, none⟩) n cap) (rs.set k ⟨pa, pc, ⟨yd, putL x yn, b⟩⟩) ∧ ((yn ≠ [] ∧ blockOf (.slice pa (putL x yn).length pc) = blockOf (.slice ya yn.length yc)) ∨ W.heap.size ≤ blockOf (.slice pa (putL x yn).length pc)) ∧ Below lo W w' ∧ ∀ j, j < W.heap.size → j ≠ g → (yn = [] ∨ j ≠ blockOf (.slice ya yn.length yc)) → w'.heap[j]? = W.heap[j]? := by
  have ba : ∀ (w : World) o, Below w.heap.size w (w.alloc o) := fun w o => (Below.refl _ _).alloc (Nat.le_refl _) o
  obtain ⟨g', cap', eg, hcg, hgb, hgl, htg⟩ := hP.head (by omega)
  simp only [Value.slice.injEq, Option.some.injEq, Addr.mk.injEq, and_true] at eg
  obtain ⟨rfl, -, rfl⟩ := eg
  have CH : Hid (∀ W', Below lo W W' → ∀ pa pc, Ns W' (.slice pa (putL x yn).length pc) (putL x yn) → Calls Try.prog 23 #[.agg #[.slice ca ds.length cc, .int .i64 cop], .slice pa (putL x yn).length pc] W' fun e w' => RetB (holdsP ds cop (putL x yn)) e ∧ Below W'.heap.size W' w') := fun W' hb pa pc hp => implHolds_any _ _ ds _ cop W' (hN W' hb) hp had (fun z hz => by
    rcases mem_putL.1 hz with rfl | h
    · exact hax
    · exact hay z h) hld (by have := putL_len x yn; omega) c0 c1
  have hnn : putL x yn ≠ [] := fun e => by have : x ∈ putL x yn := mem_putL.2 (.inl rfl); rw [e] at this; simp at this
  have PN : Hid (x ∉ yn → yn.take (yn.countP (· < x)) ++ x :: yn.drop (yn.countP (· < x)) = putL x yn) := fun h => by unfold putL; rw [if_neg h]; exact putA_at hs h
  have PO : Hid (x ∈ yn → putL x yn = yn) := fun h => by unfold putL; rw [if_pos h]
  have hcp : yn.countP (· < x) ≤ yn.length := List.countP_le_length
  have hxc : yn.contains x = true ↔ x ∈ yn := by simp
  have UL : Hid (∀ j, touch (.slice ya yn.length yc) = some j → lo ≤ j ∧ j < W.heap.size ∧ j ≠ g) := fun j hj => by
    obtain ⟨h1, h2⟩ := hR.touch hj
    have q := hP.2.2.2 k hk
    rw [hy, htg] at q
    subst h2
    exact ⟨hR.ge.resolve_left h1, hR.bs.lt.resolve_left h1, fun e => (q.resolve_left h1) (by rw [← e]; rfl)⟩
  have bA := belowThen (ba W (.cells #[.pointer (some ⟨g, k * 3, none⟩)] 148)) (ba _ (.cells #[.slice ca ds.length cc, .int .i64 cop] 26))
  have X0 := (Bx.new W [.pointer (some ⟨g, k * 3, none⟩)] 148).below (ba _ (.cells #[.slice ca ds.length cc, .int .i64 cop] 26))
  have Y0 := Bx.new (W.alloc (.cells #[.pointer (some ⟨g, k * 3, none⟩)] 148)) [.slice ca ds.length cc, .int .i64 cop] 26
  rw [show (W.alloc (.cells #[.pointer (some ⟨g, k * 3, none⟩)] 148)).heap.size = W.heap.size + 1 from by simp] at Y0
  have hs0 : Hid (((W.alloc (.cells #[.pointer (some ⟨g, k * 3, none⟩)] 148)).alloc (.cells #[.slice ca ds.length cc, .int .i64 cop] 26)).heap.size = W.heap.size + 1 + 1) := by simp [Hid]
  have x0 := X0 0 _ rfl
  obtain ⟨⟨-, c10, -⟩, -, -⟩ := (hP.below bA).cells hk
  rw [hy] at c10
  simp only at c10
  have CB := dHide (search_any ya yc yn x _ (hR.bs.below bA) hs (by omega))
  replace X0 := dHide X0
  replace Y0 := dHide Y0
  have HP := dHide hP
  have HR := dHide hR
  have HY := dHide hy
  have HNN := dHide hnn
  generalize hms : putL x yn = ns at *
  clear hP hR hN had hay hax hs hy hnn hms
  go_enter Try.func119, Try.ntmps119
  go_wp2_with fail
  generalize (W.alloc (.cells #[.pointer (some ⟨g, k * 3, none⟩)] 148)).alloc (.cells #[.slice ca ds.length cc, .int .i64 cop] 26) = w0 at *
  have hs1 := dUnhide hs0
  refine (dUnhide CB).mono ?_
  rintro e w1 ⟨rfl, b1⟩
  have sz1 := b1.size
  have B1 := belowThen bA b1
  have x1 := (dUnhide X0).below b1 0 _ rfl
  have y1 := (dUnhide Y0).below b1 0 _ rfl
  have z1 := (dUnhide Y0).below b1 1 _ rfl
  have P1 := dHide ((dUnhide HP).below (belowThen B1 (Below.refl _ _).drew))
  have R1 := dHide ((dUnhide HR).below (belowThen B1 (Below.refl _ _).drew))
  generalize hct : yn.countP (· < x) = ct at *
  generalize yn.contains x = fb at *
  replace hxc := dHide hxc
  clear CB X0 Y0 bA b1 x0 c10 hct
  go_upto_if 19 with fail
  go_cut [6] (fun _ wx => ∃ pa pc, AckMid W lo g n cap k rs ya yc yd yn ns yb (.slice ca ds.length cc) cop wx pa pc)
  case first =>
    cases fb with
    | true =>
      have e1 := dUnhide PO ((dUnhide hxc).1 rfl)
      clear PN PO CH
      go_wp2_with fail
      go_meet
      case rel =>
        refine ⟨ya, yc, ?_, .inl ?_, B1.mono hlo, fun j hj _ _ => B1.block j hj, ⟨x1, y1, z1⟩, by omega⟩
        · have e2 : rs.set k ⟨ya, yc, ⟨yd, ns, yb⟩⟩ = rs := by
            rw [e1]
            have h := dUnhide HY
            rw [← h]
            exact List.set_getElem_self hk
          rw [e2]
          exact dUnhide P1
        · subst e1
          exact ⟨dUnhide HNN, rfl⟩
    | false =>
      have e1 := dUnhide PN (fun h => by have := (dUnhide hxc).2 h; cases this)
      have bB := ba w1.drew (.cells #[.int .i64 x] 3)
      have c2 : w1.drew.cell? ⟨g, k * 3 + 1, none⟩ = some (.slice ya yn.length yc) := by
        obtain ⟨⟨-, q, -⟩, -, -⟩ := (dUnhide P1).cells hk
        rw [dUnhide HY] at q
        exact q
      have c3 : (w1.drew.alloc (.cells #[.int .i64 x] 3)).cell? ⟨g, k * 3 + 1, none⟩ = some (.slice ya yn.length yc) := (bB.cell (p := ⟨g, k * 3 + 1, none⟩) (dCell_lt c2)).trans c2
      have c4 : (w1.alloc (.cells #[.int .i64 x] 3)).cell? ⟨g, k * 3 + 1, none⟩ = some (.slice ya yn.length yc) := c3
      have f3 : (w1.drew.alloc (.cells #[.int .i64 x] 3)).frozen? ⟨g, k * 3 + 1, none⟩ = false := ((dUnhide P1).below bB).cells hk |>.2.1
      have x2 : (w1.drew.alloc (.cells #[.int .i64 x] 3)).cell? ⟨W.heap.size, 0, none⟩ = some (.pointer (some ⟨g, k * 3, none⟩)) := (bB.cell (p := ⟨W.heap.size, 0, none⟩) (dCell_lt (w := w1.drew) x1)).trans x1
      have y2 := dHide ((bB.cell (p := ⟨W.heap.size + 1, 0, none⟩) (dCell_lt (w := w1.drew) y1)).trans y1)
      have z2 := dHide ((bB.cell (p := ⟨W.heap.size + 1, 1, none⟩) (dCell_lt (w := w1.drew) z1)).trans z1)
      have CI := dHide (insN_any (.slice ya yn.length yc) yn x (w1.drew.alloc (.cells #[.int .i64 x] 3)) lo ct w1.heap.size 3 ((dUnhide R1).below bB).1 (by simpa [iCl] using (MapKept.heap_alloc w1.drew (.cells #[.int .i64 x] 3)).1) (fun e => by have := (dUnhide UL _ e).2.1; omega) (by omega) hcp (by simp; omega))
      rw [e1] at CI
      have PB := dHide ((dUnhide P1).below bB)
      have RB := dHide ((dUnhide R1).below bB)
      have szB : Hid ((w1.drew.alloc (.cells #[.int .i64 x] 3)).heap.size = w1.heap.size + 1) := by simp [Hid]
      have BB := dHide (belowThen (belowThen B1 (Below.refl _ _).drew) bB)
      clear PN PO CH e1 bB P1 R1 HP HR
      go_wp2_with fail
      refine wp_region_noPanic ?_
      refine wp_region_held_drew (S := fun W' => W'.cell? ⟨W.heap.size, 0, none⟩ = some (.pointer (some ⟨g, k * 3, none⟩))) (by kernel_rfl) (by first | exact x1 | exact x2 | exact x5 | exact set_other x5 (.inl (by omega)) | go_keep) (fun hHeld => ?_)
      refine wpAnyH_take (i := 0) (oi := { dst := some 20, op := Op.fieldAddr 148 (Operand.tmp 3) 0, type := 0, pos := "l08_writer.go:33", after := #[], guard := none }) (v := ?_) rfl (by kernel_rfl) (by kernel_rfl) (by kernel_rfl) (fun _ _ _ h => h) (Or.inl ⟨by rfl, ?_⟩) (by assumption) ?_
      rotate_left 1
      · intro w hSw
        (try dsimp only at hSw)
        first | (go_simp; done) | (go_simp; with_reducible rfl)
      try simp only [Act.put, List.setIfInBounds_toArray, List.set_cons_zero, List.set_cons_succ]
      refine wpAnyH_take (i := 1) (oi := { dst := some 21, op := Op.load 146 (Operand.tmp 20), type := 146, pos := "l08_writer.go:33", after := #[{ on := 0, ground := Ground.data }], guard := none }) (v := ?_) rfl (by kernel_rfl) (by kernel_rfl) (by kernel_rfl) (fun _ _ _ h => h) (Or.inl ⟨by rfl, ?_⟩) (by assumption) ?_
      rotate_left 1
      · intro w hSw
        (try dsimp only at hSw)
        first | (go_simp; done) | (go_simp; with_reducible rfl)
      try simp only [Act.put, List.setIfInBounds_toArray, List.set_cons_zero, List.set_cons_succ]
      refine wpAnyH_take (i := 2) (oi := { dst := some 22, op := Op.fieldAddr 148 (Operand.tmp 3) 0, type := 0, pos := "l08_writer.go:33", after := #[], guard := none }) (v := ?_) rfl (by kernel_rfl) (by kernel_rfl) (by kernel_rfl) (fun _ _ _ h => h) (Or.inl ⟨by rfl, ?_⟩) (by assumption) ?_
      rotate_left 1
      · intro w hSw
        (try dsimp only at hSw)
        first | (go_simp; done) | (go_simp; with_reducible rfl)
      try simp only [Act.put, List.setIfInBounds_toArray, List.set_cons_zero, List.set_cons_succ]
      refine wpAnyH_take (i := 3) (oi := { dst := some 23, op := Op.load 146 (Operand.tmp 22), type := 146, pos := "l08_writer.go:33", after := #[{ on := 2, ground := Ground.data }], guard := none }) (v := ?_) rfl (by kernel_rfl) (by kernel_rfl) (by kernel_rfl) (fun _ _ _ h => h) (Or.inl ⟨by rfl, ?_⟩) (by assumption) ?_
      rotate_left 1
      · intro w hSw
        (try dsimp only at hSw)
        first | (go_simp; done) | (go_simp; with_reducible rfl)
      try simp only [Act.put, List.setIfInBounds_toArray, List.set_cons_zero, List.set_cons_succ]
      refine wpAnyH_take (i := 4) (oi := { dst := some 24, op := Op.nilCheck (Operand.tmp 23), type := 0, pos := "l08_writer.go:33", after := #[{ on := 3, ground := Ground.data }], guard := none }) (v := ?_) rfl (by kernel_rfl) (by kernel_rfl) (by kernel_rfl) (fun _ _ _ h => h) (Or.inl ⟨by rfl, ?_⟩) (by assumption) ?_
      rotate_left 1
      · intro w hSw
        (try dsimp only at hSw)
        first | (go_simp; done) | (go_simp; with_reducible rfl)
      try simp only [Act.put, List.setIfInBounds_toArray, List.set_cons_zero, List.set_cons_succ]
      refine wpAnyH_take (i := 5) (oi := { dst := some 25, op := Op.fieldAddr 35 (Operand.tmp 24) 1, type := 0, pos := "l08_writer.go:33", after := #[{ on := 4, ground := Ground.data }], guard := none }) (v := ?_) rfl (by kernel_rfl) (by kernel_rfl) (by kernel_rfl) (fun _ _ _ h => h) (Or.inl ⟨by rfl, ?_⟩) (by assumption) ?_
      rotate_left 1
      · intro w hSw
        (try dsimp only at hSw)
        first | (go_simp; done) | (go_simp; with_reducible rfl)
      try simp only [Act.put, List.setIfInBounds_toArray, List.set_cons_zero, List.set_cons_succ]
      refine wpAnyH_take (i := 7) (oi := { dst := some 27, op := Op.move (Operand.tmp 6), type := 3, pos := "l08_writer.go:33", after := #[], guard := none }) (v := ?_) rfl (by kernel_rfl) (by kernel_rfl) (by kernel_rfl) (fun _ _ _ h => h) (Or.inl ⟨by rfl, ?_⟩) (by assumption) ?_
      rotate_left 1
      · intro w hSw
        (try dsimp only at hSw)
        first | (go_simp; done) | (go_simp; with_reducible rfl)
      try simp only [Act.put, List.setIfInBounds_toArray, List.set_cons_zero, List.set_cons_succ]
      refine wpAnyH_take (i := 8) (oi := { dst := some 28, op := Op.move (Operand.tmp 2), type := 3, pos := "l08_writer.go:33", after := #[], guard := none }) (v := ?_) rfl (by kernel_rfl) (by kernel_rfl) (by kernel_rfl) (fun _ _ _ h => h) (Or.inl ⟨by rfl, ?_⟩) (by assumption) ?_
      rotate_left 1
      · intro w hSw
        (try dsimp only at hSw)
        first | (go_simp; done) | (go_simp; with_reducible rfl)
      try simp only [Act.put, List.setIfInBounds_toArray, List.set_cons_zero, List.set_cons_succ]
      refine wpAnyH_ready (rs := [6, 9]) (by kernel_rfl) (by simp) ?_
      refine AllReadyH.cons (o := { dst := some 26, op := Op.load 24 (Operand.tmp 25), type := 24, pos := "l08_writer.go:33", after := #[{ on := 5, ground := Ground.data }], guard := none }) rfl (fun K hK => ?_) (AllReadyH.cons (o := { dst := some 29, op := Op.buildSlice 24 1 #[(0, Operand.tmp 28)], type := 24, pos := "l08_writer.go:33", after := #[{ on := 8, ground := Ground.data }], guard := none }) rfl (fun K hK => ?_) AllReadyH.nil)
      · go_simp
        refine hK.out _ _ (by first | exact x1 | exact x2 | exact x5 | exact set_other x5 (.inl (by omega)) | go_keep) (fun hHeld => ?_)
        clear hK K
        try simp only [Act.put, List.setIfInBounds_toArray, List.set_cons_zero, List.set_cons_succ]
        refine wpAnyH_ready (rs := [9]) (by kernel_rfl) (by simp) ?_
        refine AllReadyH.cons (o := { dst := some 29, op := Op.buildSlice 24 1 #[(0, Operand.tmp 28)], type := 24, pos := "l08_writer.go:33", after := #[{ on := 8, ground := Ground.data }], guard := none }) rfl (fun K hK => ?_) AllReadyH.nil
        go_simp
        refine hK.out _ _ (by first | exact x1 | exact x2 | exact x5 | exact set_other x5 (.inl (by omega)) | go_keep) (fun hHeld => ?_)
        clear hK K
        try simp only [Act.put, List.setIfInBounds_toArray, List.set_cons_zero, List.set_cons_succ]
        refine wpAnyH_ready (rs := [10]) (by kernel_rfl) (by simp) ?_
        refine AllReadyH.cons (o := { dst := some 30, op := Op.call { callee := Callee.value (Operand.func 150), args := #[Operand.tmp 26, Operand.tmp 27, Operand.tmp 29], argTypes := #[24, 3, 24] }, type := 24, pos := "l08_writer.go:33", after := #[{ on := 6, ground := Ground.data }, { on := 7, ground := Ground.data }, { on := 9, ground := Ground.data }], guard := none }) rfl (fun K hK => ?_) AllReadyH.nil
        go_simp
        refine (dUnhide CI).mono ?_
        rintro e w5 ⟨v5, rfl, A5, G5, T5⟩
        obtain ⟨pa, pc, rfl⟩ := ApR.slice elemI A5
        have HP5 := dHide (ack_ins (dUnhide PB) hk (dUnhide HY) (dUnhide RB) (dUnhide HNN) A5 G5 T5)
        have hsB := dUnhide szB
        have x5 : w5.cell? ⟨W.heap.size, 0, none⟩ = some (.pointer (some ⟨g, k * 3, none⟩)) := (World.cell?_of_block (a := ⟨W.heap.size, 0, none⟩) (G5.block W.heap.size (by omega) (fun e => by have := (dUnhide UL _ e.symm).2.1; omega))).trans x2
        have y5 := dHide ((World.cell?_of_block (a := ⟨W.heap.size + 1, 0, none⟩) (G5.block (W.heap.size + 1) (by omega) (fun e => by have := (dUnhide UL _ e.symm).2.1; omega))).trans (dUnhide y2))
        have z5 := dHide ((World.cell?_of_block (a := ⟨W.heap.size + 1, 1, none⟩) (G5.block (W.heap.size + 1) (by omega) (fun e => by have := (dUnhide UL _ e.symm).2.1; omega))).trans (dUnhide z2))
        have c5 : w5.cell? ⟨g, k * 3 + 1, none⟩ = some (.slice ya yn.length yc) := (World.cell?_of_block (a := ⟨g, k * 3 + 1, none⟩) (G5.block g (by omega) (fun e => (dUnhide UL _ e.symm).2.2 rfl))).trans c3
        have f5 : w5.frozen? ⟨g, k * 3 + 1, none⟩ = false := (World.frozen?_of_block (a := ⟨g, k * 3 + 1, none⟩) (G5.block g (by omega) (fun e => (dUnhide UL _ e.symm).2.2 rfl))).trans f3
        have B5 : Hid (Below lo W w5) := ((dUnhide BB).mono hlo).grown G5 (by omega) (fun j hj => (dUnhide UL _ hj).1)
        have s5 := G5.size
        have FR : Hid (∀ j, j < W.heap.size → (yn = [] ∨ j ≠ blockOf (.slice ya yn.length yc)) → w5.heap[j]? = W.heap[j]?) := fun j hj hn => (G5.block j (by omega) (fun e => by
          obtain ⟨h1, h2⟩ := (dUnhide RB).touch e.symm
          rcases hn with h | h
          · exact h1 h
          · exact h h2)).trans ((dUnhide BB).block j hj)
        clear A5 G5 T5 CI PB RB
        (try go_wp2_with fail)
        refine hK.out _ _ (by first | exact x1 | exact x2 | exact x5 | exact set_other x5 (.inl (by omega)) | go_keep) (fun hHeld => ?_)
        clear hK K
        try simp only [Act.put, List.setIfInBounds_toArray, List.set_cons_zero, List.set_cons_succ]
        refine wpAnyH_take (i := 11) (oi := { dst := some 31, op := Op.nilCheck (Operand.tmp 21), type := 0, pos := "l08_writer.go:33", after := #[{ on := 1, ground := Ground.data }, { on := 0, ground := Ground.phase }, { on := 1, ground := Ground.phase }, { on := 2, ground := Ground.phase }, { on := 3, ground := Ground.phase }, { on := 4, ground := Ground.phase }, { on := 5, ground := Ground.phase }, { on := 6, ground := Ground.phase }, { on := 7, ground := Ground.phase }, { on := 8, ground := Ground.phase }, { on := 9, ground := Ground.phase }, { on := 10, ground := Ground.phase }], guard := none }) (v := ?_) rfl (by kernel_rfl) (by kernel_rfl) (by kernel_rfl) (fun _ _ _ h => h) (Or.inl ⟨by rfl, ?_⟩) (by assumption) ?_
        rotate_left 1
        · intro w hSw
          (try dsimp only at hSw)
          first | (go_simp; done) | (go_simp; with_reducible rfl)
        try simp only [Act.put, List.setIfInBounds_toArray, List.set_cons_zero, List.set_cons_succ]
        refine wpAnyH_take (i := 12) (oi := { dst := some 32, op := Op.fieldAddr 35 (Operand.tmp 31) 1, type := 0, pos := "l08_writer.go:33", after := #[{ on := 11, ground := Ground.data }, { on := 0, ground := Ground.phase }, { on := 1, ground := Ground.phase }, { on := 2, ground := Ground.phase }, { on := 3, ground := Ground.phase }, { on := 4, ground := Ground.phase }, { on := 5, ground := Ground.phase }, { on := 6, ground := Ground.phase }, { on := 7, ground := Ground.phase }, { on := 8, ground := Ground.phase }, { on := 9, ground := Ground.phase }, { on := 10, ground := Ground.phase }], guard := none }) (v := ?_) rfl (by kernel_rfl) (by kernel_rfl) (by kernel_rfl) (fun _ _ _ h => h) (Or.inl ⟨by rfl, ?_⟩) (by assumption) ?_
        rotate_left 1
        · intro w hSw
          (try dsimp only at hSw)
          first | (go_simp; done) | (go_simp; with_reducible rfl)
        try simp only [Act.put, List.setIfInBounds_toArray, List.set_cons_zero, List.set_cons_succ]
        refine wpAnyH_ready (rs := [13]) (by kernel_rfl) (by simp) ?_
        refine AllReadyH.cons (o := { dst := none, op := Op.store 24 (Operand.tmp 32) (Operand.tmp 30), type := 0, pos := "l08_writer.go:33", after := #[{ on := 12, ground := Ground.data }, { on := 10, ground := Ground.data }, { on := 10, ground := Ground.chain }, { on := 0, ground := Ground.phase }, { on := 1, ground := Ground.phase }, { on := 2, ground := Ground.phase }, { on := 3, ground := Ground.phase }, { on := 4, ground := Ground.phase }, { on := 5, ground := Ground.phase }, { on := 6, ground := Ground.phase }, { on := 7, ground := Ground.phase }, { on := 8, ground := Ground.phase }, { on := 9, ground := Ground.phase }, { on := 10, ground := Ground.phase }], guard := none }) rfl (fun K hK => ?_) AllReadyH.nil
        go_simp
        refine hK.out _ _ (by first | exact x1 | exact x2 | exact x5 | exact set_other x5 (.inl (by omega)) | go_keep) (fun hHeld => ?_)
        clear hK K
        try simp only [Act.put, List.setIfInBounds_toArray, List.set_cons_zero, List.set_cons_succ]
        refine wpAnyH_done (by kernel_rfl) ?_ _
        refine NoPanic.normal ?_
        go_wp2_with fail
        go_meet
        case rel =>
          obtain ⟨q1, q2⟩ := dUnhide HP5
          exact ⟨pa, pc, q1, q2.imp id (fun h => by omega), (dUnhide B5).setCell (p := ⟨g, k * 3 + 1, none⟩) hgb _, fun j hj hjg hn => (Below.heap_setCell _ _ _ j (by simp only; exact hjg)).trans (dUnhide FR j hj hn), ⟨set_other x5 (.inl (by omega)), set_other (dUnhide y5) (.inl (by omega)), set_other (dUnhide z5) (.inl (by omega))⟩, by simp; omega⟩
      · go_simp
        refine hK.out _ _ (by first | exact x1 | exact x2 | exact x5 | exact set_other x5 (.inl (by omega)) | go_keep) (fun hHeld => ?_)
        clear hK K
        try simp only [Act.put, List.setIfInBounds_toArray, List.set_cons_zero, List.set_cons_succ]
        refine wpAnyH_ready (rs := [6]) (by kernel_rfl) (by simp) ?_
        refine AllReadyH.cons (o := { dst := some 26, op := Op.load 24 (Operand.tmp 25), type := 24, pos := "l08_writer.go:33", after := #[{ on := 5, ground := Ground.data }], guard := none }) rfl (fun K hK => ?_) AllReadyH.nil
        go_simp
        refine hK.out _ _ (by first | exact x1 | exact x2 | exact x5 | exact set_other x5 (.inl (by omega)) | go_keep) (fun hHeld => ?_)
        clear hK K
        try simp only [Act.put, List.setIfInBounds_toArray, List.set_cons_zero, List.set_cons_succ]
        refine wpAnyH_ready (rs := [10]) (by kernel_rfl) (by simp) ?_
        refine AllReadyH.cons (o := { dst := some 30, op := Op.call { callee := Callee.value (Operand.func 150), args := #[Operand.tmp 26, Operand.tmp 27, Operand.tmp 29], argTypes := #[24, 3, 24] }, type := 24, pos := "l08_writer.go:33", after := #[{ on := 6, ground := Ground.data }, { on := 7, ground := Ground.data }, { on := 9, ground := Ground.data }], guard := none }) rfl (fun K hK => ?_) AllReadyH.nil
        go_simp
        refine (dUnhide CI).mono ?_
        rintro e w5 ⟨v5, rfl, A5, G5, T5⟩
        obtain ⟨pa, pc, rfl⟩ := ApR.slice elemI A5
        have HP5 := dHide (ack_ins (dUnhide PB) hk (dUnhide HY) (dUnhide RB) (dUnhide HNN) A5 G5 T5)
        have hsB := dUnhide szB
        have x5 : w5.cell? ⟨W.heap.size, 0, none⟩ = some (.pointer (some ⟨g, k * 3, none⟩)) := (World.cell?_of_block (a := ⟨W.heap.size, 0, none⟩) (G5.block W.heap.size (by omega) (fun e => by have := (dUnhide UL _ e.symm).2.1; omega))).trans x2
        have y5 := dHide ((World.cell?_of_block (a := ⟨W.heap.size + 1, 0, none⟩) (G5.block (W.heap.size + 1) (by omega) (fun e => by have := (dUnhide UL _ e.symm).2.1; omega))).trans (dUnhide y2))
        have z5 := dHide ((World.cell?_of_block (a := ⟨W.heap.size + 1, 1, none⟩) (G5.block (W.heap.size + 1) (by omega) (fun e => by have := (dUnhide UL _ e.symm).2.1; omega))).trans (dUnhide z2))
        have c5 : w5.cell? ⟨g, k * 3 + 1, none⟩ = some (.slice ya yn.length yc) := (World.cell?_of_block (a := ⟨g, k * 3 + 1, none⟩) (G5.block g (by omega) (fun e => (dUnhide UL _ e.symm).2.2 rfl))).trans c3
        have f5 : w5.frozen? ⟨g, k * 3 + 1, none⟩ = false := (World.frozen?_of_block (a := ⟨g, k * 3 + 1, none⟩) (G5.block g (by omega) (fun e => (dUnhide UL _ e.symm).2.2 rfl))).trans f3
        have B5 : Hid (Below lo W w5) := ((dUnhide BB).mono hlo).grown G5 (by omega) (fun j hj => (dUnhide UL _ hj).1)
        have s5 := G5.size
        have FR : Hid (∀ j, j < W.heap.size → (yn = [] ∨ j ≠ blockOf (.slice ya yn.length yc)) → w5.heap[j]? = W.heap[j]?) := fun j hj hn => (G5.block j (by omega) (fun e => by
          obtain ⟨h1, h2⟩ := (dUnhide RB).touch e.symm
          rcases hn with h | h
          · exact h1 h
          · exact h h2)).trans ((dUnhide BB).block j hj)
        clear A5 G5 T5 CI PB RB
        (try go_wp2_with fail)
        refine hK.out _ _ (by first | exact x1 | exact x2 | exact x5 | exact set_other x5 (.inl (by omega)) | go_keep) (fun hHeld => ?_)
        clear hK K
        try simp only [Act.put, List.setIfInBounds_toArray, List.set_cons_zero, List.set_cons_succ]
        refine wpAnyH_take (i := 11) (oi := { dst := some 31, op := Op.nilCheck (Operand.tmp 21), type := 0, pos := "l08_writer.go:33", after := #[{ on := 1, ground := Ground.data }, { on := 0, ground := Ground.phase }, { on := 1, ground := Ground.phase }, { on := 2, ground := Ground.phase }, { on := 3, ground := Ground.phase }, { on := 4, ground := Ground.phase }, { on := 5, ground := Ground.phase }, { on := 6, ground := Ground.phase }, { on := 7, ground := Ground.phase }, { on := 8, ground := Ground.phase }, { on := 9, ground := Ground.phase }, { on := 10, ground := Ground.phase }], guard := none }) (v := ?_) rfl (by kernel_rfl) (by kernel_rfl) (by kernel_rfl) (fun _ _ _ h => h) (Or.inl ⟨by rfl, ?_⟩) (by assumption) ?_
        rotate_left 1
        · intro w hSw
          (try dsimp only at hSw)
          first | (go_simp; done) | (go_simp; with_reducible rfl)
        try simp only [Act.put, List.setIfInBounds_toArray, List.set_cons_zero, List.set_cons_succ]
        refine wpAnyH_take (i := 12) (oi := { dst := some 32, op := Op.fieldAddr 35 (Operand.tmp 31) 1, type := 0, pos := "l08_writer.go:33", after := #[{ on := 11, ground := Ground.data }, { on := 0, ground := Ground.phase }, { on := 1, ground := Ground.phase }, { on := 2, ground := Ground.phase }, { on := 3, ground := Ground.phase }, { on := 4, ground := Ground.phase }, { on := 5, ground := Ground.phase }, { on := 6, ground := Ground.phase }, { on := 7, ground := Ground.phase }, { on := 8, ground := Ground.phase }, { on := 9, ground := Ground.phase }, { on := 10, ground := Ground.phase }], guard := none }) (v := ?_) rfl (by kernel_rfl) (by kernel_rfl) (by kernel_rfl) (fun _ _ _ h => h) (Or.inl ⟨by rfl, ?_⟩) (by assumption) ?_
        rotate_left 1
        · intro w hSw
          (try dsimp only at hSw)
          first | (go_simp; done) | (go_simp; with_reducible rfl)
        try simp only [Act.put, List.setIfInBounds_toArray, List.set_cons_zero, List.set_cons_succ]
        refine wpAnyH_ready (rs := [13]) (by kernel_rfl) (by simp) ?_
        refine AllReadyH.cons (o := { dst := none, op := Op.store 24 (Operand.tmp 32) (Operand.tmp 30), type := 0, pos := "l08_writer.go:33", after := #[{ on := 12, ground := Ground.data }, { on := 10, ground := Ground.data }, { on := 10, ground := Ground.chain }, { on := 0, ground := Ground.phase }, { on := 1, ground := Ground.phase }, { on := 2, ground := Ground.phase }, { on := 3, ground := Ground.phase }, { on := 4, ground := Ground.phase }, { on := 5, ground := Ground.phase }, { on := 6, ground := Ground.phase }, { on := 7, ground := Ground.phase }, { on := 8, ground := Ground.phase }, { on := 9, ground := Ground.phase }, { on := 10, ground := Ground.phase }], guard := none }) rfl (fun K hK => ?_) AllReadyH.nil
        go_simp
        refine hK.out _ _ (by first | exact x1 | exact x2 | exact x5 | exact set_other x5 (.inl (by omega)) | go_keep) (fun hHeld => ?_)
        clear hK K
        try simp only [Act.put, List.setIfInBounds_toArray, List.set_cons_zero, List.set_cons_succ]
        refine wpAnyH_done (by kernel_rfl) ?_ _
        refine NoPanic.normal ?_
        go_wp2_with fail
        go_meet
        case rel =>
          obtain ⟨q1, q2⟩ := dUnhide HP5
          exact ⟨pa, pc, q1, q2.imp id (fun h => by omega), (dUnhide B5).setCell (p := ⟨g, k * 3 + 1, none⟩) hgb _, fun j hj hjg hn => (Below.heap_setCell _ _ _ j (by simp only; exact hjg)).trans (dUnhide FR j hj hn), ⟨set_other x5 (.inl (by omega)), set_other (dUnhide y5) (.inl (by omega)), set_other (dUnhide z5) (.inl (by omega))⟩, by simp; omega⟩
  case rest =>
    obtain ⟨pa, pc, hM⟩ := hcut
    generalize wc = wx at *
    obtain ⟨P2, hblk, B2, FR2, ⟨x2, y2, z2⟩, sz2⟩ := hM
    have bd : Below wx.heap.size wx wx.drew := (Below.refl _ _).drew
    have P3 := P2.below bd
    obtain ⟨c2, -, -⟩ := P3.cells' hk
    simp only at c2
    have CHo := dHide (dUnhide CH wx.drew (B2.trans (bd.mono (Nat.le_trans hlo B2.size))) pa pc (by
      have q := P3.2.1 _ (List.getElem_mem (l := rs.set k ⟨pa, pc, ⟨yd, ns, yb⟩⟩) (n := k) (by rw [List.length_set]; exact hk))
      rw [List.getElem_set_self] at q
      exact q.bs))
    have HP3 := dHide P3
    have HBL := dHide hblk
    have HFR := dHide FR2
    have hgx : g < wx.heap.size := dCell_lt (w := wx.drew) c2
    clear CH PN PO P1 R1 HP HR P2 P3 hblk FR2 x1 y1 z1 bd
    go_wp2_with fail
    refine wp_region_noPanic ?_
    refine wp_region_held_drew (S := fun W' => W'.cell? ⟨W.heap.size, 0, none⟩ = some (.pointer (some ⟨g, k * 3, none⟩)) ∧ W'.cell? ⟨W.heap.size + 1, 0, none⟩ = some (.slice ca ds.length cc) ∧ W'.cell? ⟨W.heap.size + 1, 1, none⟩ = some (.int .i64 cop)) (by kernel_rfl) (by first | exact ⟨x2, y2, z2⟩ | exact ⟨x6, y6, z6⟩ | exact ⟨set_other x6 (.inl (by omega)), set_other y6 (.inl (by omega)), set_other z6 (.inl (by omega))⟩ | go_keep) (fun hHeld => ?_)
    refine wpAnyH_take (i := 0) (oi := { dst := some 33, op := Op.fieldAddr 148 (Operand.tmp 3) 0, type := 0, pos := "l08_writer.go:35", after := #[], guard := none }) (v := ?_) rfl (by kernel_rfl) (by kernel_rfl) (by kernel_rfl) (fun _ _ _ h => h) (Or.inl ⟨by rfl, ?_⟩) (by assumption) ?_
    rotate_left 1
    · intro w hSw
      (try dsimp only at hSw)
      first | (go_simp; done) | (go_simp; with_reducible rfl)
    try simp only [Act.put, List.setIfInBounds_toArray, List.set_cons_zero, List.set_cons_succ]
    refine wpAnyH_take (i := 1) (oi := { dst := some 34, op := Op.load 146 (Operand.tmp 33), type := 146, pos := "l08_writer.go:35", after := #[{ on := 0, ground := Ground.data }], guard := none }) (v := ?_) rfl (by kernel_rfl) (by kernel_rfl) (by kernel_rfl) (fun _ _ _ h => h) (Or.inl ⟨by rfl, ?_⟩) (by assumption) ?_
    rotate_left 1
    · intro w hSw
      (try dsimp only at hSw)
      first | (go_simp; done) | (go_simp; with_reducible rfl)
    try simp only [Act.put, List.setIfInBounds_toArray, List.set_cons_zero, List.set_cons_succ]
    refine wpAnyH_take (i := 2) (oi := { dst := some 35, op := Op.load 26 (Operand.tmp 4), type := 26, pos := "l08_writer.go:35", after := #[], guard := none }) (v := ?_) rfl (by kernel_rfl) (by kernel_rfl) (by kernel_rfl) (fun _ _ _ h => h) (Or.inl ⟨by rfl, ?_⟩) (by assumption) ?_
    rotate_left 1
    · intro w hSw
      (try dsimp only at hSw)
      first | (go_simp; done) | (go_simp; with_reducible rfl)
    try simp only [Act.put, List.setIfInBounds_toArray, List.set_cons_zero, List.set_cons_succ]
    refine wpAnyH_take (i := 3) (oi := { dst := some 36, op := Op.fieldAddr 148 (Operand.tmp 3) 0, type := 0, pos := "l08_writer.go:35", after := #[], guard := none }) (v := ?_) rfl (by kernel_rfl) (by kernel_rfl) (by kernel_rfl) (fun _ _ _ h => h) (Or.inl ⟨by rfl, ?_⟩) (by assumption) ?_
    rotate_left 1
    · intro w hSw
      (try dsimp only at hSw)
      first | (go_simp; done) | (go_simp; with_reducible rfl)
    try simp only [Act.put, List.setIfInBounds_toArray, List.set_cons_zero, List.set_cons_succ]
    refine wpAnyH_take (i := 4) (oi := { dst := some 37, op := Op.load 146 (Operand.tmp 36), type := 146, pos := "l08_writer.go:35", after := #[{ on := 3, ground := Ground.data }], guard := none }) (v := ?_) rfl (by kernel_rfl) (by kernel_rfl) (by kernel_rfl) (fun _ _ _ h => h) (Or.inl ⟨by rfl, ?_⟩) (by assumption) ?_
    rotate_left 1
    · intro w hSw
      (try dsimp only at hSw)
      first | (go_simp; done) | (go_simp; with_reducible rfl)
    try simp only [Act.put, List.setIfInBounds_toArray, List.set_cons_zero, List.set_cons_succ]
    refine wpAnyH_take (i := 5) (oi := { dst := some 38, op := Op.nilCheck (Operand.tmp 37), type := 0, pos := "l08_writer.go:35", after := #[{ on := 4, ground := Ground.data }], guard := none }) (v := ?_) rfl (by kernel_rfl) (by kernel_rfl) (by kernel_rfl) (fun _ _ _ h => h) (Or.inl ⟨by rfl, ?_⟩) (by assumption) ?_
    rotate_left 1
    · intro w hSw
      (try dsimp only at hSw)
      first | (go_simp; done) | (go_simp; with_reducible rfl)
    try simp only [Act.put, List.setIfInBounds_toArray, List.set_cons_zero, List.set_cons_succ]
    refine wpAnyH_take (i := 6) (oi := { dst := some 39, op := Op.fieldAddr 35 (Operand.tmp 38) 1, type := 0, pos := "l08_writer.go:35", after := #[{ on := 5, ground := Ground.data }], guard := none }) (v := ?_) rfl (by kernel_rfl) (by kernel_rfl) (by kernel_rfl) (fun _ _ _ h => h) (Or.inl ⟨by rfl, ?_⟩) (by assumption) ?_
    rotate_left 1
    · intro w hSw
      (try dsimp only at hSw)
      first | (go_simp; done) | (go_simp; with_reducible rfl)
    try simp only [Act.put, List.setIfInBounds_toArray, List.set_cons_zero, List.set_cons_succ]
    refine wpAnyH_ready (rs := [7]) (by kernel_rfl) (by simp) ?_
    refine AllReadyH.cons (o := { dst := some 40, op := Op.load 24 (Operand.tmp 39), type := 24, pos := "l08_writer.go:35", after := #[{ on := 6, ground := Ground.data }], guard := none }) rfl (fun K hK => ?_) AllReadyH.nil
    go_simp
    refine hK.out _ _ (by first | exact ⟨x2, y2, z2⟩ | exact ⟨x6, y6, z6⟩ | exact ⟨set_other x6 (.inl (by omega)), set_other y6 (.inl (by omega)), set_other z6 (.inl (by omega))⟩ | go_keep) (fun hHeld => ?_)
    clear hK K
    try simp only [Act.put, List.setIfInBounds_toArray, List.set_cons_zero, List.set_cons_succ]
    refine wpAnyH_ready (rs := [8]) (by kernel_rfl) (by simp) ?_
    refine AllReadyH.cons (o := { dst := some 41, op := Op.call { callee := Callee.value (Operand.func 23), args := #[Operand.tmp 35, Operand.tmp 40], argTypes := #[26, 24] }, type := 4, pos := "l08_writer.go:35", after := #[{ on := 2, ground := Ground.data }, { on := 7, ground := Ground.data }], guard := none }) rfl (fun K hK => ?_) AllReadyH.nil
    go_simp
    refine (dUnhide CHo).mono ?_
    rintro e w6 ⟨⟨b6, rfl, hb6⟩, bl6⟩
    have P6 := (dUnhide HP3).below bl6
    obtain ⟨-, c6, f6⟩ := P6.cells' hk
    simp only at c6
    have HD := dHide (P6.done' hk b6)
    have x6 : w6.cell? ⟨W.heap.size, 0, none⟩ = some (.pointer (some ⟨g, k * 3, none⟩)) := (bl6.cell (p := ⟨W.heap.size, 0, none⟩) (dCell_lt (w := wx.drew) x2)).trans x2
    have y6 : w6.cell? ⟨W.heap.size + 1, 0, none⟩ = some (.slice ca ds.length cc) := (bl6.cell (p := ⟨W.heap.size + 1, 0, none⟩) (dCell_lt (w := wx.drew) y2)).trans y2
    have z6 : w6.cell? ⟨W.heap.size + 1, 1, none⟩ = some (.int .i64 cop) := (bl6.cell (p := ⟨W.heap.size + 1, 1, none⟩) (dCell_lt (w := wx.drew) z2)).trans z2
    have HB6 := dHide hb6
    have B6 : Hid (Below lo W w6) := B2.trans (Below.mono ⟨bl6.os, bl6.tape, bl6.output, bl6.size, bl6.block⟩ (Nat.le_trans hlo B2.size))
    have F6 : Hid (∀ j, j < W.heap.size → w6.heap[j]? = wx.heap[j]?) := fun j hj => bl6.block j (by show j < wx.heap.size; omega)
    clear P6 hb6 bl6 CHo HP3
    (try go_wp2_with fail)
    refine hK.out _ _ (by first | exact ⟨x2, y2, z2⟩ | exact ⟨x6, y6, z6⟩ | exact ⟨set_other x6 (.inl (by omega)), set_other y6 (.inl (by omega)), set_other z6 (.inl (by omega))⟩ | go_keep) (fun hHeld => ?_)
    clear hK K
    try simp only [Act.put, List.setIfInBounds_toArray, List.set_cons_zero, List.set_cons_succ]
    refine wpAnyH_take (i := 9) (oi := { dst := some 42, op := Op.nilCheck (Operand.tmp 34), type := 0, pos := "l08_writer.go:35", after := #[{ on := 1, ground := Ground.data }, { on := 0, ground := Ground.phase }, { on := 1, ground := Ground.phase }, { on := 2, ground := Ground.phase }, { on := 3, ground := Ground.phase }, { on := 4, ground := Ground.phase }, { on := 5, ground := Ground.phase }, { on := 6, ground := Ground.phase }, { on := 7, ground := Ground.phase }, { on := 8, ground := Ground.phase }], guard := none }) (v := ?_) rfl (by kernel_rfl) (by kernel_rfl) (by kernel_rfl) (fun _ _ _ h => h) (Or.inl ⟨by rfl, ?_⟩) (by assumption) ?_
    rotate_left 1
    · intro w hSw
      (try dsimp only at hSw)
      first | (go_simp; done) | (go_simp; with_reducible rfl)
    try simp only [Act.put, List.setIfInBounds_toArray, List.set_cons_zero, List.set_cons_succ]
    refine wpAnyH_take (i := 10) (oi := { dst := some 43, op := Op.fieldAddr 35 (Operand.tmp 42) 2, type := 0, pos := "l08_writer.go:35", after := #[{ on := 9, ground := Ground.data }, { on := 0, ground := Ground.phase }, { on := 1, ground := Ground.phase }, { on := 2, ground := Ground.phase }, { on := 3, ground := Ground.phase }, { on := 4, ground := Ground.phase }, { on := 5, ground := Ground.phase }, { on := 6, ground := Ground.phase }, { on := 7, ground := Ground.phase }, { on := 8, ground := Ground.phase }], guard := none }) (v := ?_) rfl (by kernel_rfl) (by kernel_rfl) (by kernel_rfl) (fun _ _ _ h => h) (Or.inl ⟨by rfl, ?_⟩) (by assumption) ?_
    rotate_left 1
    · intro w hSw
      (try dsimp only at hSw)
      first | (go_simp; done) | (go_simp; with_reducible rfl)
    try simp only [Act.put, List.setIfInBounds_toArray, List.set_cons_zero, List.set_cons_succ]
    refine wpAnyH_ready (rs := [11]) (by kernel_rfl) (by simp) ?_
    refine AllReadyH.cons (o := { dst := none, op := Op.store 4 (Operand.tmp 43) (Operand.tmp 41), type := 0, pos := "l08_writer.go:35", after := #[{ on := 10, ground := Ground.data }, { on := 8, ground := Ground.data }, { on := 8, ground := Ground.chain }, { on := 0, ground := Ground.phase }, { on := 1, ground := Ground.phase }, { on := 2, ground := Ground.phase }, { on := 3, ground := Ground.phase }, { on := 4, ground := Ground.phase }, { on := 5, ground := Ground.phase }, { on := 6, ground := Ground.phase }, { on := 7, ground := Ground.phase }, { on := 8, ground := Ground.phase }], guard := none }) rfl (fun K hK => ?_) AllReadyH.nil
    go_simp
    refine hK.out _ _ (by first | exact ⟨x2, y2, z2⟩ | exact ⟨x6, y6, z6⟩ | exact ⟨set_other x6 (.inl (by omega)), set_other y6 (.inl (by omega)), set_other z6 (.inl (by omega))⟩ | go_keep) (fun hHeld => ?_)
    clear hK K
    try simp only [Act.put, List.setIfInBounds_toArray, List.set_cons_zero, List.set_cons_succ]
    refine wpAnyH_done (by kernel_rfl) ?_ _
    refine NoPanic.normal ?_
    go_wp2_with fail
    go_returns
    exact ⟨rfl, pa, pc, b6, dUnhide HB6, dUnhide HD, dUnhide HBL, (dUnhide B6).setCell (p := ⟨g, k * 3 + 2, none⟩) hgb _, fun j hj hjg hn => (Below.heap_setCell _ _ _ j (by simp only; exact hjg)).trans ((dUnhide F6 j hj).trans (dUnhide HFR j hj hjg hn))⟩
end Go.Proofs.Ytjbfpmackocgnaa
