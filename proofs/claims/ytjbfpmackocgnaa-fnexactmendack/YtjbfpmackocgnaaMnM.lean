/- impl's MendAck (printed by tools/mkmnm.py). -/
import Derived.Test.YtjbfpmackocgnaaMnL
import Derived.Deep.RegionHeld3
import Derived.Deep.DeepCutAuto
namespace Go.Proofs.Ytjbfpmackocgnaa
open Go.ChangeShapes Go.WideShapes Go.ChangeAt Go.RowKit
set_option linter.unusedVariables false
set_option linter.unusedSimpArgs false
set_option maxRecDepth 100000

theorem mnP.cfg {ds : List Int} {cop : Int} {m : Mn} (h : mnP ds cop m) : cfgP ds cop := h.1.1
theorem one_nodes {ds : List Int} {cop x : Int} (h : cfgP ds cop) : nodesP ds cop [x] ↔ 0 ≤ x ∧ x ≤ (ds.length : Int) - 1 := by
  unfold nodesP
  rw [ascP_iff]
  simp [h]
/-- What ack leaves. -/
def AckQ (W : World) (lo b : Nat) (sv ev wv : Value) (ds : List Int) (off node : Int) (m : Mn) (e : Ending) (w' : World) : Prop := ∃ ok, (ok = true ↔ ack9P ds m off node) ∧ e = .returned (.bool ok) ∧ Below lo W w' ∧ (ok = true → ∃ rs', BxZ w' lo b [.int .i64 m.bye, .int .i64 m.epoch, sv, ev, .bool m.planned, wv] ∧ rs'.map Nst.m = (ack9W m off node).wrote ∧ OwM lo w'.heap.size sv ev wv rs' m.sealed m.seen w')
set_option maxHeartbeats 8000000 in
theorem mack9_any (W : World) (lo b : Nat) (sv ev wv : Value) (qs : List (Nst (List Int))) (ds : List Int) (cop : Int) (ca : Option Addr) (cc : Nat) (off node : Int) (m : Mn) (hP : mnP ds cop m) (hX : BxZ W lo b [.int .i64 m.bye, .int .i64 m.epoch, sv, ev, .bool m.planned, wv]) (hq : qs.map Nst.m = m.wrote) (hI : ImM W lo sv ev wv qs m.sealed m.seen) (hF : FrM b sv ev wv qs m.sealed) (hlo : lo ≤ W.heap.size) (hN : Ns W (.slice ca ds.length cc) ds) (had : allInt ds) (hax : okInt node) (hld : ds.length ≤ 1048576) (hs : sizMend m ≤ 1048576) (c0 : -9223372036854775808 ≤ cop) (c1 : cop ≤ 9223372036854775807) :
    Calls Try.prog 104 #[.pointer (some ⟨b, 0, none⟩), .agg #[.slice ca ds.length cc, .int .i64 cop], .int .i64 off, .int .i64 node] W (AckQ W lo b sv ev wv ds off node m) := by
  have ba : ∀ (w : World) o, Below w.heap.size w (w.alloc o) := fun w o => (Below.refl _ _).alloc (Nat.le_refl _) o
  have CN := dHide fun (W' : World) (hb : Below W.heap.size W W') (v : Value) (hv : Ns W' v [node]) => implNodes_any _ v ds [node] cop W' (hN.below hb) hv had (fun z hz => by simp at hz; subst hz; exact hax) hld (by simp) c0 c1
  have hwl : ∀ l ∈ m.wrote, l.length ≤ 1048576 := fun l hl => by
    obtain ⟨k, hk, rfl⟩ := List.getElem_of_mem hl
    have q := sumL_mem (ms := m.wrote) (k := k) hk
    unfold sizMend sizIntSS at hs
    omega
  have hwn : m.wrote.length ≤ 1048576 := by unfold sizMend sizIntSS at hs; omega
  have Hs : Hid (∀ l ∈ m.wrote, l.Pairwise (· < ·)) := fun l hl => ((ascP_iff _ _ _).1 (hP.wrote l hl).2).1
  have PA : Hid (ack9P ds m off node ↔ (1 ≤ off ∧ off ≤ (m.wrote.length : Int)) ∧ nodesP ds cop [node]) := by
    show _ ↔ _
    rw [one_nodes hP.cfg]
    rfl
  have EW : Hid ((ack9W m off node).wrote = m.wrote.set (off.toNat - 1) (putL node (m.wrote.getD (off.toNat - 1) []))) := rfl
  have hrl : qs.length = m.wrote.length := by rw [← hq, List.length_map]
  obtain ⟨wa, wz, rfl⟩ : ∃ wa wz, wv = .slice wa m.wrote.length wz := by
    obtain ⟨-, a3, c3, rfl, -, -⟩ := hI.2.2.1.rw
    exact ⟨a3, c3, by rw [hrl]⟩
  have Q0 : Hid (∀ w', ¬ ack9P ds m off node → Below lo W w' → AckQ W lo b sv ev (.slice wa m.wrote.length wz) ds off node m (.returned (.bool false)) w') := fun w' h hb => ⟨false, ⟨(fun h => by cases h), fun h' => absurd h' h⟩, rfl, hb, fun h => by cases h⟩
  have Q1 : Hid (∀ w' rs', ack9P ds m off node → Below lo W w' → BxZ w' lo b [.int .i64 m.bye, .int .i64 m.epoch, sv, ev, .bool m.planned, .slice wa m.wrote.length wz] → rs'.map Nst.m = (ack9W m off node).wrote → OwM lo w'.heap.size sv ev (.slice wa m.wrote.length wz) rs' m.sealed m.seen w' → AckQ W lo b sv ev (.slice wa m.wrote.length wz) ds off node m (.returned (.bool true)) w') := fun w' rs' h hb h1 h2 h3 => ⟨true, ⟨fun _ => h, fun _ => rfl⟩, rfl, hb, fun _ => ⟨rs', h1, h2, h3⟩⟩
  generalize AckQ W lo b sv ev (.slice wa m.wrote.length wz) ds off node m = QQ at *
  generalize ack9P ds m off node = PQ at *
  generalize (ack9W m off node).wrote = WW at *
  generalize hnp : nodesP ds cop [node] = PN at *
  clear hnp hP hs had hax hN
  generalize m.bye = f0 at *
  generalize m.epoch = f1 at *
  generalize m.planned = f4 at *
  generalize m.sealed = ss at *
  generalize m.seen = es at *
  generalize m.wrote = ws at *
  have bA := ba W (.cells #[.slice ca ds.length cc, .int .i64 cop] 26)
  have X0 := Bx.new W [.slice ca ds.length cc, .int .i64 cop] 26
  have xa := X0 0 _ rfl
  have xb := X0 1 _ rfl
  have hbl : b < W.heap.size := hX.lt
  have O1 := hX.below bA
  have p5 := (O1.2 5 _ rfl).1
  have I1 := dHide (hI.below bA)
  have szA : (W.alloc (.cells #[.slice ca ds.length cc, .int .i64 cop] 26)).heap.size = W.heap.size + 1 := by simp
  have bB := ba (W.alloc (.cells #[.slice ca ds.length cc, .int .i64 cop] 26)) (.cells #[.int .i64 node] 3)
  have BAB := dHide (belowThen bA bB)
  have NB : Hid (Ns ((W.alloc (.cells #[.slice ca ds.length cc, .int .i64 cop] 26)).alloc (.cells #[.int .i64 node] 3)) (.slice (some ⟨W.heap.size + 1, 0, none⟩) 1 1) [node]) := by
    have q := Bx.new (W.alloc (.cells #[.slice ca ds.length cc, .int .i64 cop] 26)) [.int .i64 node] 3
    rw [szA] at q
    refine ⟨by simp, _, _, rfl, by simp, .inr ⟨_, _, rfl, fun j hj => ?_⟩⟩
    have : j = 0 := by simpa using hj
    subst this
    exact q 0 _ rfl
  have CC := dHide (dUnhide CN _ (dUnhide BAB) _ (dUnhide NB))
  have OX := dHide O1
  clear CN X0 hX hI NB
  by_cases h1 : off < 1
  · go_enter Try.func104, Try.ntmps104
    go_wp2_with fail
    exact dUnhide Q0 _ (fun h => by have := ((dUnhide PA).1 h).1; omega) (bA.mono hlo)
  by_cases h2 : off > (ws.length : Int)
  · have h1' : 1 ≤ off := by omega
    go_enter Try.func104, Try.ntmps104
    go_wp2_with fail
    exact dUnhide Q0 _ (fun h => by have := ((dUnhide PA).1 h).1; omega) (bA.mono hlo)
  have h1' : 1 ≤ off := by omega
  have h2' : off ≤ (ws.length : Int) := by omega
  have h2'' : ¬ (ws.length : Int) < off := by omega
  go_enter Try.func104, Try.ntmps104
  go_wp2_with fail
  refine (dUnhide CC).mono ?_
  rintro e w1 ⟨⟨b1, rfl, hb1⟩, bl1⟩
  have B1 := belowThen (dUnhide BAB) bl1
  have O1 := (dUnhide OX).below (belowThen bB bl1)
  have I2 := (dUnhide I1).below (belowThen bB bl1)
  have sz1 := B1.size
  clear CC BAB OX I1 bA bB bl1 xa xb p5 szA
  cases b1
  · have hno := dHide (show ¬ PQ from fun h => by have := hb1.2 ((dUnhide PA).1 h).2; cases this)
    clear I2 O1 hb1
    go_wp2_with fail
    exact dUnhide Q0 _ (dUnhide hno) (B1.mono hlo)
  have hPQ := dHide ((dUnhide PA).2 ⟨⟨h1', h2'⟩, hb1.1 rfl⟩)
  obtain ⟨j, hj'⟩ : ∃ j : Nat, off = (j : Int) + 1 := ⟨off.toNat - 1, by omega⟩
  have hjl : j < qs.length := by omega
  have ej : off.toNat - 1 = j := by omega
  have eg : ws.getD j [] = qs[j].m := by
    have h1 : ws[j]'(by omega) = (qs.map Nst.m)[j]'(by simpa using hjl) := by simp only [hq]
    rw [List.getElem_map] at h1
    rw [List.getD_eq_getElem?_getD, List.getElem?_eq_getElem (by omega), Option.getD_some, h1]
  have EWj : Hid (∀ p : Nst (List Int), p.m = putL node qs[j].m → (qs.set j p).map Nst.m = WW) := fun p hp => by
    rw [dUnhide EW, ej, eg, List.map_set, hq, hp]
  have hjm : qs[j].m ∈ ws := by rw [← hq]; exact List.mem_map.2 ⟨_, List.getElem_mem hjl, rfl⟩
  have hnl : qs[j].m.length ≤ 1048576 := hwl _ hjm
  have hst := dHide (dUnhide Hs _ hjm)
  obtain ⟨g, o, rfl, c5, f5, n5⟩ := I2.owm.cell hjl
  have hne : qs ≠ [] := fun e => by rw [e] at hjl; simp at hjl
  have hgo : g ≠ b := (hF.2.2.1).resolve_left hne
  have hg0 : lo ≤ g := (I2.2.2.1.geG).resolve_left hne
  have hg1 : g < w1.heap.size := dCell_lt c5
  have UT : Hid (∀ t, touch (.slice qs[j].a qs[j].m.length qs[j].c) = some t → lo ≤ t ∧ t ≠ b ∧ t ≠ g) := fun t ht => by
    have R := I2.2.2.2.1 _ (List.getElem_mem hjl)
    obtain ⟨q1, q2⟩ := R.touch ht
    subst q2
    exact ⟨R.ge.resolve_left q1, (hF.2.2.2 _ (List.getElem_mem hjl)).resolve_left q1, (I2.2.2.2.2.1.2 j hjl).resolve_left q1⟩
  have HR : Hid (∀ wd, Below w1.heap.size w1 wd → RmN wd lo (.slice qs[j].a qs[j].m.length qs[j].c) qs[j].m) := fun wd hb => (I2.below hb).2.2.2.1 _ (List.getElem_mem hjl)
  have HA : Hid (∀ wd w5 pa pc, Below w1.heap.size w1 wd → wd.grownBy w5 (touch (.slice qs[j].a qs[j].m.length qs[j].c)) → RmN w5 lo (.slice pa (putL node qs[j].m).length pc) (putL node qs[j].m) → ((qs[j].m ≠ [] ∧ blockOf (.slice pa (putL node qs[j].m).length pc) = blockOf (.slice qs[j].a qs[j].m.length qs[j].c)) ∨ wd.heap.size ≤ blockOf (.slice pa (putL node qs[j].m).length pc)) →
      OwM lo w5.heap.size sv ev (.slice (some ⟨g, o, none⟩) ws.length wz) (qs.set j ⟨pa, pc, putL node qs[j].m⟩) ss es (w5.setCell ⟨g, o + j, none⟩ (.slice pa (putL node qs[j].m).length pc))) := fun wd w5 pa pc hb hG hR hh => (I2.below hb).acked hjl hG hR hh
  have t3 : IntKind.i64.wrap ((j : Int) + 1 - 1) = (j : Int) := by rw [IntKind.wrap_i64]; omega
  have t6 : IntKind.i64.wrap (j : Int) = (j : Int) := by rw [IntKind.wrap_i64]; omega
  have t4 : (j : Int) < (ws.length : Int) := by omega
  have t5 : (0 : Int) ≤ (j : Int) := by omega
  subst hj'
  generalize hy : qs[j] = y at *
  obtain ⟨ya, yc, yn⟩ := y
  simp only at *
  have p0 := (O1.2 5 _ rfl).1
  have bd : Below w1.heap.size w1 w1.drew := (Below.refl _ _).drew
  clear hb1 PA EW eg ej I2 Hs hwl hF hjm n5 h1 h2 h1' h2' h2''
  go_wp2_with fail
  refine wp_region_noPanic ?_
  refine wp_region_held_drew (S := fun W => W.cell? ⟨b, 5, none⟩ = some (.slice (some ⟨g, o, none⟩) ws.length wz)) (by kernel_rfl) (by first | exact pd | exact p0 | go_keep) (fun hHeld => ?_)
  have hwd : Below w1.heap.size w1 w1.drew := bd
  have cd := (bd.cell (p := ⟨g, o + j, none⟩) (dCell_lt c5)).trans c5
  have fd := (bd.frozen (p := ⟨g, o + j, none⟩) (dCell_lt c5)).trans f5
  have pd := (O1.below bd).2 5 _ rfl |>.1
  clear c5 f5
  generalize w1.drew = wd at *
  refine wpAnyH_take (i := 0) (oi := { dst := some 27, op := Op.move (Operand.tmp 0), type := 132, pos := "l09_mend.go:146", after := #[], guard := none }) (v := ?_) rfl (by kernel_rfl) (by kernel_rfl) (by kernel_rfl) (fun _ _ _ h => h) (Or.inl ⟨by rfl, ?_⟩) (by assumption) ?_
  rotate_left 1
  · intro w hSw
    (try dsimp only at hSw)
    first | (go_simp; done) | (go_simp; with_reducible rfl)
  try simp only [Act.put, List.setIfInBounds_toArray, List.set_cons_zero, List.set_cons_succ]
  refine wpAnyH_take (i := 1) (oi := { dst := some 28, op := Op.nilCheck (Operand.tmp 27), type := 0, pos := "l09_mend.go:146", after := #[{ on := 0, ground := Ground.data }], guard := none }) (v := ?_) rfl (by kernel_rfl) (by kernel_rfl) (by kernel_rfl) (fun _ _ _ h => h) (Or.inl ⟨by rfl, ?_⟩) (by assumption) ?_
  rotate_left 1
  · intro w hSw
    (try dsimp only at hSw)
    first | (go_simp; done) | (go_simp; with_reducible rfl)
  try simp only [Act.put, List.setIfInBounds_toArray, List.set_cons_zero, List.set_cons_succ]
  refine wpAnyH_take (i := 2) (oi := { dst := some 29, op := Op.fieldAddr 47 (Operand.tmp 28) 5, type := 0, pos := "l09_mend.go:146", after := #[{ on := 1, ground := Ground.data }], guard := none }) (v := ?_) rfl (by kernel_rfl) (by kernel_rfl) (by kernel_rfl) (fun _ _ _ h => h) (Or.inl ⟨by rfl, ?_⟩) (by assumption) ?_
  rotate_left 1
  · intro w hSw
    (try dsimp only at hSw)
    first | (go_simp; done) | (go_simp; with_reducible rfl)
  try simp only [Act.put, List.setIfInBounds_toArray, List.set_cons_zero, List.set_cons_succ]
  refine wpAnyH_take (i := 3) (oi := { dst := some 30, op := Op.load 45 (Operand.tmp 29), type := 45, pos := "l09_mend.go:146", after := #[{ on := 2, ground := Ground.data }], guard := none }) (v := ?_) rfl (by kernel_rfl) (by kernel_rfl) (by kernel_rfl) (fun _ _ _ h => h) (Or.inl ⟨by rfl, ?_⟩) (by assumption) ?_
  rotate_left 1
  · intro w hSw
    (try dsimp only at hSw)
    first | (go_simp; done) | (go_simp; with_reducible rfl)
  try simp only [Act.put, List.setIfInBounds_toArray, List.set_cons_zero, List.set_cons_succ]
  refine wpAnyH_take (i := 4) (oi := { dst := some 31, op := Op.move (Operand.tmp 2), type := 3, pos := "l09_mend.go:146", after := #[], guard := none }) (v := ?_) rfl (by kernel_rfl) (by kernel_rfl) (by kernel_rfl) (fun _ _ _ h => h) (Or.inl ⟨by rfl, ?_⟩) (by assumption) ?_
  rotate_left 1
  · intro w hSw
    (try dsimp only at hSw)
    first | (go_simp; done) | (go_simp; with_reducible rfl)
  try simp only [Act.put, List.setIfInBounds_toArray, List.set_cons_zero, List.set_cons_succ]
  refine wpAnyH_take (i := 5) (oi := { dst := some 32, op := Op.binOp BinOp.sub 3 (Operand.tmp 31) (Operand.const (Value.int IntKind.i64 1)) 3, type := 3, pos := "l09_mend.go:146", after := #[{ on := 4, ground := Ground.data }], guard := none }) (v := ?_) rfl (by kernel_rfl) (by kernel_rfl) (by kernel_rfl) (fun _ _ _ h => h) (Or.inl ⟨by rfl, ?_⟩) (by assumption) ?_
  rotate_left 1
  · intro w hSw
    (try dsimp only at hSw)
    first | (go_simp; done) | (go_simp; with_reducible rfl)
  try simp only [Act.put, List.setIfInBounds_toArray, List.set_cons_zero, List.set_cons_succ]
  refine wpAnyH_take (i := 6) (oi := { dst := some 33, op := Op.move (Operand.tmp 0), type := 132, pos := "l09_mend.go:146", after := #[], guard := none }) (v := ?_) rfl (by kernel_rfl) (by kernel_rfl) (by kernel_rfl) (fun _ _ _ h => h) (Or.inl ⟨by rfl, ?_⟩) (by assumption) ?_
  rotate_left 1
  · intro w hSw
    (try dsimp only at hSw)
    first | (go_simp; done) | (go_simp; with_reducible rfl)
  try simp only [Act.put, List.setIfInBounds_toArray, List.set_cons_zero, List.set_cons_succ]
  refine wpAnyH_take (i := 7) (oi := { dst := some 34, op := Op.nilCheck (Operand.tmp 33), type := 0, pos := "l09_mend.go:146", after := #[{ on := 6, ground := Ground.data }], guard := none }) (v := ?_) rfl (by kernel_rfl) (by kernel_rfl) (by kernel_rfl) (fun _ _ _ h => h) (Or.inl ⟨by rfl, ?_⟩) (by assumption) ?_
  rotate_left 1
  · intro w hSw
    (try dsimp only at hSw)
    first | (go_simp; done) | (go_simp; with_reducible rfl)
  try simp only [Act.put, List.setIfInBounds_toArray, List.set_cons_zero, List.set_cons_succ]
  refine wpAnyH_take (i := 8) (oi := { dst := some 35, op := Op.fieldAddr 47 (Operand.tmp 34) 5, type := 0, pos := "l09_mend.go:146", after := #[{ on := 7, ground := Ground.data }], guard := none }) (v := ?_) rfl (by kernel_rfl) (by kernel_rfl) (by kernel_rfl) (fun _ _ _ h => h) (Or.inl ⟨by rfl, ?_⟩) (by assumption) ?_
  rotate_left 1
  · intro w hSw
    (try dsimp only at hSw)
    first | (go_simp; done) | (go_simp; with_reducible rfl)
  try simp only [Act.put, List.setIfInBounds_toArray, List.set_cons_zero, List.set_cons_succ]
  refine wpAnyH_take (i := 9) (oi := { dst := some 36, op := Op.load 45 (Operand.tmp 35), type := 45, pos := "l09_mend.go:146", after := #[{ on := 8, ground := Ground.data }], guard := none }) (v := ?_) rfl (by kernel_rfl) (by kernel_rfl) (by kernel_rfl) (fun _ _ _ h => h) (Or.inl ⟨by rfl, ?_⟩) (by assumption) ?_
  rotate_left 1
  · intro w hSw
    (try dsimp only at hSw)
    first | (go_simp; done) | (go_simp; with_reducible rfl)
  try simp only [Act.put, List.setIfInBounds_toArray, List.set_cons_zero, List.set_cons_succ]
  refine wpAnyH_take (i := 10) (oi := { dst := some 37, op := Op.move (Operand.tmp 2), type := 3, pos := "l09_mend.go:146", after := #[], guard := none }) (v := ?_) rfl (by kernel_rfl) (by kernel_rfl) (by kernel_rfl) (fun _ _ _ h => h) (Or.inl ⟨by rfl, ?_⟩) (by assumption) ?_
  rotate_left 1
  · intro w hSw
    (try dsimp only at hSw)
    first | (go_simp; done) | (go_simp; with_reducible rfl)
  try simp only [Act.put, List.setIfInBounds_toArray, List.set_cons_zero, List.set_cons_succ]
  refine wpAnyH_take (i := 11) (oi := { dst := some 38, op := Op.binOp BinOp.sub 3 (Operand.tmp 37) (Operand.const (Value.int IntKind.i64 1)) 3, type := 3, pos := "l09_mend.go:146", after := #[{ on := 10, ground := Ground.data }], guard := none }) (v := ?_) rfl (by kernel_rfl) (by kernel_rfl) (by kernel_rfl) (fun _ _ _ h => h) (Or.inl ⟨by rfl, ?_⟩) (by assumption) ?_
  rotate_left 1
  · intro w hSw
    (try dsimp only at hSw)
    first | (go_simp; done) | (go_simp; with_reducible rfl)
  try simp only [Act.put, List.setIfInBounds_toArray, List.set_cons_zero, List.set_cons_succ]
  refine wpAnyH_take (i := 12) (oi := { dst := some 39, op := Op.indexAddr 45 (Operand.tmp 36) (Operand.tmp 38), type := 0, pos := "l09_mend.go:146", after := #[{ on := 9, ground := Ground.data }, { on := 11, ground := Ground.data }], guard := none }) (v := ?_) rfl (by kernel_rfl) (by kernel_rfl) (by kernel_rfl) (fun _ _ _ h => h) (Or.inl ⟨by rfl, ?_⟩) (by assumption) ?_
  rotate_left 1
  · intro w hSw
    (try dsimp only at hSw)
    first | (go_simp; done) | (go_simp; with_reducible rfl)
  try simp only [Act.put, List.setIfInBounds_toArray, List.set_cons_zero, List.set_cons_succ]
  refine wpAnyH_take (i := 14) (oi := { dst := some 41, op := Op.move (Operand.tmp 3), type := 3, pos := "l09_mend.go:146", after := #[], guard := none }) (v := ?_) rfl (by kernel_rfl) (by kernel_rfl) (by kernel_rfl) (fun _ _ _ h => h) (Or.inl ⟨by rfl, ?_⟩) (by assumption) ?_
  rotate_left 1
  · intro w hSw
    (try dsimp only at hSw)
    first | (go_simp; done) | (go_simp; with_reducible rfl)
  try simp only [Act.put, List.setIfInBounds_toArray, List.set_cons_zero, List.set_cons_succ]
  refine wpAnyH_ready (rs := [13]) (by kernel_rfl) (by simp) ?_
  refine AllReadyH.cons (o := { dst := some 40, op := Op.load 24 (Operand.tmp 39), type := 24, pos := "l09_mend.go:146", after := #[{ on := 12, ground := Ground.data }], guard := none }) rfl (fun K hK => ?_) AllReadyH.nil
  go_simp
  refine hK.out _ _ (by first | exact pd | exact p0 | go_keep) (fun hHeld => ?_)
  clear hK K
  try simp only [Act.put, List.setIfInBounds_toArray, List.set_cons_zero, List.set_cons_succ]
  refine wpAnyH_ready (rs := [15]) (by kernel_rfl) (by simp) ?_
  refine AllReadyH.cons (o := { dst := some 42, op := Op.call { callee := Callee.value (Operand.func 141), args := #[Operand.tmp 40, Operand.tmp 41], argTypes := #[24, 3] }, type := 24, pos := "l09_mend.go:146", after := #[{ on := 13, ground := Ground.data }, { on := 14, ground := Ground.data }], guard := none }) rfl (fun K hK => ?_) AllReadyH.nil
  go_simp
  refine (withNode_any wd lo ya yc yn node (dUnhide HR _ hwd) (by have := hwd.size; omega) (dUnhide hst) hnl).mono ?_
  rintro e w5 ⟨pa, pc, rfl, R5, g5, hb5⟩
  have T5 := dHide (dUnhide HA wd w5 pa pc hwd g5 R5 hb5)
  have Od := (O1.below hwd).grown g5 (fun e => (dUnhide UT _ e).2.1 rfl)
  have hkg := g5.block g (Nat.lt_of_lt_of_le hg1 hwd.size) (fun e => (dUnhide UT _ e.symm).2.2 rfl)
  have cd' := (World.cell?_of_block (a := ⟨g, o + j, none⟩) hkg).trans cd
  have fd' := (World.frozen?_of_block (a := ⟨g, o + j, none⟩) hkg).trans fd
  have B5 := ((belowThen B1 hwd).mono hlo).grown g5 (by have := hwd.size; omega) (fun k e => (dUnhide UT _ e).1)
  have pd := (Od.2 5 _ rfl).1
  clear cd fd hwd R5 g5 hb5 hkg HA HR UT
  (try go_wp2_with fail)
  refine hK.out _ _ (by first | exact pd | exact p0 | go_keep) (fun hHeld => ?_)
  clear hK K
  try simp only [Act.put, List.setIfInBounds_toArray, List.set_cons_zero, List.set_cons_succ]
  refine wpAnyH_take (i := 16) (oi := { dst := some 43, op := Op.indexAddr 45 (Operand.tmp 30) (Operand.tmp 32), type := 0, pos := "l09_mend.go:146", after := #[{ on := 3, ground := Ground.data }, { on := 5, ground := Ground.data }, { on := 0, ground := Ground.phase }, { on := 1, ground := Ground.phase }, { on := 2, ground := Ground.phase }, { on := 3, ground := Ground.phase }, { on := 4, ground := Ground.phase }, { on := 5, ground := Ground.phase }, { on := 6, ground := Ground.phase }, { on := 7, ground := Ground.phase }, { on := 8, ground := Ground.phase }, { on := 9, ground := Ground.phase }, { on := 10, ground := Ground.phase }, { on := 11, ground := Ground.phase }, { on := 12, ground := Ground.phase }, { on := 13, ground := Ground.phase }, { on := 14, ground := Ground.phase }, { on := 15, ground := Ground.phase }], guard := none }) (v := ?_) rfl (by kernel_rfl) (by kernel_rfl) (by kernel_rfl) (fun _ _ _ h => h) (Or.inl ⟨by rfl, ?_⟩) (by assumption) ?_
  rotate_left 1
  · intro w hSw
    (try dsimp only at hSw)
    first | (go_simp; done) | (go_simp; with_reducible rfl)
  try simp only [Act.put, List.setIfInBounds_toArray, List.set_cons_zero, List.set_cons_succ]
  refine wpAnyH_ready (rs := [17]) (by kernel_rfl) (by simp) ?_
  refine AllReadyH.cons (o := { dst := none, op := Op.store 24 (Operand.tmp 43) (Operand.tmp 42), type := 0, pos := "l09_mend.go:146", after := #[{ on := 16, ground := Ground.data }, { on := 15, ground := Ground.data }, { on := 15, ground := Ground.chain }, { on := 0, ground := Ground.phase }, { on := 1, ground := Ground.phase }, { on := 2, ground := Ground.phase }, { on := 3, ground := Ground.phase }, { on := 4, ground := Ground.phase }, { on := 5, ground := Ground.phase }, { on := 6, ground := Ground.phase }, { on := 7, ground := Ground.phase }, { on := 8, ground := Ground.phase }, { on := 9, ground := Ground.phase }, { on := 10, ground := Ground.phase }, { on := 11, ground := Ground.phase }, { on := 12, ground := Ground.phase }, { on := 13, ground := Ground.phase }, { on := 14, ground := Ground.phase }, { on := 15, ground := Ground.phase }], guard := none }) rfl (fun K hK => ?_) AllReadyH.nil
  go_simp
  have O6 := Od.far (b' := g) (o := o + j) (Ne.symm hgo) (.slice pa (putL node yn).length pc)
  have hb6 := B5.setCell (p := ⟨g, o + j, none⟩) hg0 (.slice pa (putL node yn).length pc)
  have hz6 : w5.heap.size = (w5.setCell ⟨g, o + j, none⟩ (.slice pa (putL node yn).length pc)).heap.size := by simp
  have pd := (O6.2 5 _ rfl).1
  clear cd' fd' Od B5
  generalize w5.setCell ⟨g, o + j, none⟩ (.slice pa (putL node yn).length pc) = w6 at *
  (try go_wp2_with fail)
  refine hK.out _ _ (by first | exact pd | exact p0 | go_keep) (fun hHeld => ?_)
  clear hK K
  try simp only [Act.put, List.setIfInBounds_toArray, List.set_cons_zero, List.set_cons_succ]
  refine wpAnyH_done (by kernel_rfl) ?_ _
  refine NoPanic.normal ?_
  go_wp2_with fail
  rw [hz6] at T5
  exact dUnhide Q1 _ _ (dUnhide hPQ) hb6 O6 (dUnhide EWj _ rfl) (dUnhide T5)
end Go.Proofs.Ytjbfpmackocgnaa
