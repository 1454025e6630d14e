/- spec's and impl's WorldNew: a world in which nothing is yet. -/
import Derived.Test.YtaamipmlalplbaaWoN
import Derived.Test.YtaamipmlalplbaaGaC
import Derived.Test.YtaamipmlalplbaaGaG
import Derived.Test.YtaamipmlalplbaaGw2
import Derived.Test.YtaamipmlalplbaaRmP
import Derived.Test.YtaamipmlalplbaaStepP
import Derived.Deep.MidRow
import Derived.Deep.RegionHeld3
import Derived.Deep.DeepCutAuto
namespace Go.Proofs.Ytaamipmlalplbaa
open Go.ChangeShapes Go.WideShapes Go.ChangeAt Go.RowKit
set_option linter.unusedVariables false
set_option linter.unusedSimpArgs false
set_option maxRecDepth 100000

theorem specReaderNew_any (w : World) : Calls Try.prog 15 #[] w fun e w' => e = .returned (.agg #[.int .i64 1, .int .i64 1, .slice none 0 0]) ∧ Below w.heap.size w w' := by
  go_enter Try.func15, Try.ntmps15
  go_wp2
  go_returns
  exact ⟨rfl, by go_grown⟩
theorem implReaderNew_any (w : World) : Calls Try.prog 19 #[] w fun e w' => e = .returned (.agg #[.int .i64 1, .int .i64 1, .slice none 0 0]) ∧ Below w.heap.size w w' := by
  go_enter Try.func19, Try.ntmps19
  go_wp2
  go_returns
  exact ⟨rfl, by go_grown⟩
theorem below_setCells {B b : Nat} {w : World} (hB : B ≤ b) : ∀ (vs : List Value) (o : Nat) (w' : World), Below B w w' → Below B w (w'.setCells b o vs)
  | [], _, _, h => h
  | v :: r, o, w', h => below_setCells hB r (o + 1) _ (h.setCell (p := ⟨b, o, none⟩) hB v)
theorem setCells_size (b : Nat) : ∀ (vs : List Value) (o : Nat) (w : World), (w.setCells b o vs).heap.size = w.heap.size
  | [], _, _ => rfl
  | v :: r, o, w => by rw [World.setCells, setCells_size b r]; simp
theorem setCells_block (b : Nat) {x : Nat} (h : x ≠ b) : ∀ (vs : List Value) (o : Nat) (w : World), (w.setCells b o vs).heap[x]? = w.heap[x]?
  | [], _, _ => rfl
  | v :: r, o, w => by rw [World.setCells, setCells_block b h r]; exact Below.heap_setCell _ _ _ x (by simp only; omega)
/-- A record is put into its box. -/
theorem op_putW {w : World} {o : Oper} {a : Act} {Q : Exit → Act → World → Prop} {K : Act → World → Prop} (T : TypeId) (p x : Operand) (hop : o.op = .store T p x) (hd : o.dst = none) {B b : Nat} {os : List Value} (vs : List Value) (hp : a.eval p = .pointer (some ⟨b, 0, none⟩)) (hx : a.eval x = .agg vs.toArray)
    (hY : BxZ w B b os) (hl : os.length = vs.length) (hi : (Try.prog.info? T).map (·.size) = some vs.toArray.size) (h1 : vs.toArray.all (·.oneCell') = true)
    (h : ∀ w', BxZ w' B b vs → w'.heap.size = w.heap.size → (∀ k, k ≠ b → w'.heap[k]? = w.heap[k]?) → Below B w w' → K a w') : Oper.wp Try.prog o a w K Q := by
  have ht : w.there b 0 vs.toArray.size := fun j hj => by
    have hj' : j < os.length := by simpa [hl] using hj
    have q := hY.2 j os[j] (by simp [hj'])
    simp only [Nat.zero_add]
    exact ⟨by rw [q.1]; rfl, q.2⟩
  have hr := run_storeAt_mid (P := Try.prog) w b 0 T vs.toArray ht hi h1
  have hc : ∀ j, j < vs.length → (w.cell? ⟨b, 0 + j, none⟩).isSome = true := fun j hj => (ht j (by simpa using hj)).1
  have Y : BxZ (w.setCells b 0 vs) B b vs := ⟨hY.1, fun i v hv => by
    obtain ⟨hi', rfl⟩ := List.getElem?_eq_some_iff.1 hv
    have hz := hY.2 i os[i] (by simp [hl, hi'])
    have e := World.cell?_setCells_in b vs 0 w hc i hi'
    rw [Nat.zero_add] at e
    exact ⟨e, (World.frozen?_setCells b vs 0 w _).trans hz.2⟩⟩
  have hh := h (w.setCells b 0 vs) Y (setCells_size b vs 0 w) (fun k hk => setCells_block b hk vs 0 w) (below_setCells hY.1 vs 0 w (Below.refl _ _))
  exact wp_store_mid T p x hop b 0 vs.toArray hp hx ht hi h1 (by rw [hd]; exact hh)
theorem wp_putW {w : World} {ops : Array Oper} {rest : List Oper} {o : Oper} {a : Act} {Q : Exit → Act → World → Prop} (hgd : o.guard = none) (T : TypeId) (p x : Operand) (hop : o.op = .store T p x) (hd : o.dst = none) {B b : Nat} {os : List Value} (vs : List Value) (hp : a.eval p = .pointer (some ⟨b, 0, none⟩)) (hx : a.eval x = .agg vs.toArray)
    (hY : BxZ w B b os) (hl : os.length = vs.length) (hi : (Try.prog.info? T).map (·.size) = some vs.toArray.size) (h1 : vs.toArray.all (·.oneCell') = true)
    (h : ∀ w', BxZ w' B b vs → w'.heap.size = w.heap.size → (∀ k, k ≠ b → w'.heap[k]? = w.heap[k]?) → Below B w w' → wpList Try.prog ops Q rest a w') : wpList Try.prog ops Q (o :: rest) a w :=
  wpList_plain hgd fun K' hK' => op_putW T p x hop hd vs hp hx hY hl hi h1 fun w' q1 q2 q3 q4 => hK' _ _ (h w' q1 q2 q3 q4)
theorem step_putW {w : World} {ops : Array Oper} {o : Oper} {a : Act} {Q : Exit → Act → World → Prop} {K : Act → World → Prop} {F : Prop} (hg : o.guard = none) (T : TypeId) (p x : Operand) (hop : o.op = .store T p x) (hd : o.dst = none) {B b : Nat} {os : List Value} (vs : List Value) (hp : a.eval p = .pointer (some ⟨b, 0, none⟩)) (hx : a.eval x = .agg vs.toArray)
    (hY : BxZ w B b os) (hl : os.length = vs.length) (hi : (Try.prog.info? T).map (·.size) = some vs.toArray.size) (h1 : vs.toArray.all (·.oneCell') = true)
    (h : ∀ w', BxZ w' B b vs → w'.heap.size = w.heap.size → (∀ k, k ≠ b → w'.heap[k]? = w.heap[k]?) → Below B w w' → K a w') :
    if Region.wanted o (yielded ops a.tmps) = true then Oper.wp Try.prog o a w K Q else F := by
  have hw : Region.wanted o (yielded ops a.tmps) = true := by simp [Region.wanted, hg]
  rw [if_pos hw]
  exact op_putW T p x hop hd vs hp hx hY hl hi h1 h
theorem Bx.off {w w' : World} {b c : Nat} {vs : List Value} (h : Bx w b vs) (g : ∀ k, k ≠ c → w'.heap[k]? = w.heap[k]?) (hb : b ≠ c) : Bx w' b vs := fun i v hv => (World.cell?_of_block (a := ⟨b, i, none⟩) (g b hb)).trans (h i v hv)
theorem BxZ.off {w w' : World} {B b c : Nat} {vs : List Value} (h : BxZ w B b vs) (g : ∀ k, k ≠ c → w'.heap[k]? = w.heap[k]?) (hb : b ≠ c) : BxZ w' B b vs := ⟨h.1, fun i v hv => ⟨(World.cell?_of_block (a := ⟨b, i, none⟩) (g b hb)).trans (h.2 i v hv).1, (World.frozen?_of_block (a := ⟨b, i, none⟩) (g b hb)).trans (h.2 i v hv).2⟩⟩
theorem Sits.off {P : World → Prop} {lo hi c : Nat} {w w' : World} (h : Sits P lo hi w) (g : ∀ k, k ≠ c → w'.heap[k]? = w.heap[k]?) (hb : c < lo ∨ hi ≤ c) (hs : w'.heap.size = w.heap.size) : Sits P lo hi w' :=
  ⟨by rw [hs]; exact h.fit, fun W hW => h.all W fun k h1 h2 => (hW k h1 h2).trans (g k (by omega))⟩
theorem makeInts : MakesNone 22 3 := fun w => by kernel_rfl
theorem allocConfig : AllocsAs 26 [.slice none 0 0, .int .i64 0] := fun w => by kernel_rfl
/-- A new reader. -/
def newR : Rr := ⟨1, 1, []⟩
/-- A new world. -/
def newW (ds : List Int) (cop : Int) : Wo := ⟨(ds, cop), List.replicate ds.length ⟨[], [], 0⟩, [], ⟨[], 0⟩, [], [], [newR, newR], [], false⟩
theorem newW_bare (ds : List Int) (cop : Int) : bareW (newW ds cop) := ⟨rfl, rfl, rfl, rfl, rfl, fun x hx => by
  simp only [newW, List.mem_cons, List.not_mem_nil, or_false] at hx
  rcases hx with rfl | rfl <;> rfl⟩
theorem step_mkW {w w' : World} {ops : Array Oper} {o : Oper} {a : Act} {Q : Exit → Act → World → Prop} {K : Act → World → Prop} {F : Prop} (hg : o.guard = none) (t : TypeId) (x y : Operand) (hop : o.op = .makeSlice t x y)
    (vx vy : Value) (hx : a.eval x = vx) (hy : a.eval y = vy) {v' : Value} (hr : (Instr.makeSlice t vx vy).run Try.prog w = .ok v' w') (h : K (a.put o.dst v') w') :
    if Region.wanted o (yielded ops a.tmps) = true then Oper.wp Try.prog o a w K Q else F := by
  have hw : Region.wanted o (yielded ops a.tmps) = true := by simp [Region.wanted, hg]
  rw [if_pos hw]
  unfold Oper.wp
  simp [execOp, hop, hx, hy, hr, Result.andThen]
  exact h
/-- New stores. -/
theorem storesNew (w : World) (n : Nat) (h : n ≤ 1048576) : Sits (OwStoreS w.heap.size (w.heap.size + 1) (.slice (some ⟨w.heap.size, 0, none⟩) n n) (List.replicate n ⟨[], [], 0⟩)) w.heap.size (w.heap.size + 1) (w.alloc (.cells (madeCells (Value.agg #[.slice none 0 0, .slice none 0 0, .int .i64 0]).cells (n * 3)) 69)) := by
  have hr := RowG.made (cl := psCl) w (Value.agg #[.slice none 0 0, .slice none 0 0, .int .i64 0]).cells n 69 zeroPs rfl zeroPs_cells
  have hl : (List.replicate n zeroPs).length = n := by simp
  have ho := hr.own (base := w.heap.size) (cap := n) (es := List.replicate n zeroPs) (by simp) (fun i hi => by simp) (Nat.le_refl _) (by simp; omega) (by simp; omega)
  rw [hl] at ho
  refine OwStoreS.sits ⟨List.replicate n zeroPs, fun _ => w.heap.size + 1, by simp [zeroPs], ho, .inr (by simp [blockOf]), ⟨Nat.le_succ _, fun _ _ => Nat.le_refl _, Nat.le_refl _⟩, fun i hi => ?_⟩ (by simp)
  have e : (List.replicate n zeroPs)[i] = zeroPs := by simp
  rw [e]
  exact ⟨_, _, rfl, ⟨OwnRw.nil _ _ _ _ (by simp [zeroPs]), .inl rfl⟩, ⟨OwnRw.nil _ _ _ _ (by simp [zeroPs]), .inl rfl⟩, .inl rfl⟩
/-- Two new readers. -/
theorem readersNew (w : World) : Sits (OwReaderS w.heap.size (w.heap.size + 1) (.slice (some ⟨w.heap.size, 0, none⟩) 2 2) [newR, newR]) w.heap.size (w.heap.size + 1) (w.alloc (.cells #[.int .i64 1, .int .i64 1, .slice none 0 0, .int .i64 1, .int .i64 1, .slice none 0 0] 49)) := by
  have Z := BxZ.new (B := w.heap.size) w [.int .i64 1, .int .i64 1, .slice none 0 0, .int .i64 1, .int .i64 1, .slice none 0 0] 49 (Nat.le_refl _)
  refine OwD.sits (Ow := OwReader) sitsOfReader ⟨[⟨[.int .i64 1, .int .i64 1, .slice none 0 0], rfl, newR⟩, ⟨[.int .i64 1, .int .i64 1, .slice none 0 0], rfl, newR⟩], fun _ => w.heap.size + 1, rfl, ⟨by simp, _, 2, rfl, ⟨by simp, by omega⟩, .inr ⟨w.heap.size, 0, rfl, Nat.le_refl _, fun i hi j u hu => ?_⟩⟩, .inr (by simp [blockOf]), ⟨Nat.le_succ _, fun _ _ => Nat.le_refl _, Nat.le_refl _⟩, fun i hi => ?_⟩ (by simp)
  · match i, hi with
    | 0, _ => 
      simp only [Nat.zero_mul, Nat.zero_add]
      match j with
      | 0 => simp at hu; subst hu; exact Z.2 0 _ rfl
      | 1 => simp at hu; subst hu; exact Z.2 1 _ rfl
      | 2 => simp at hu; subst hu; exact Z.2 2 _ rfl
      | j + 3 => simp at hu
    | 1, _ => 
      simp only [Nat.one_mul, Nat.zero_add]
      match j with
      | 0 => simp at hu; subst hu; exact Z.2 3 _ rfl
      | 1 => simp at hu; subst hu; exact Z.2 4 _ rfl
      | 2 => simp at hu; subst hu; exact Z.2 5 _ rfl
      | j + 3 => simp at hu
  · match i, hi with
    | 0, _ => exact ⟨_, rfl, OwnRw.nil _ _ _ _ (by omega), .inl rfl⟩
    | 1, _ => exact ⟨_, rfl, OwnRw.nil _ _ _ _ (by omega), .inl rfl⟩
/-- A new world of its parts. -/
theorem owNew {w : World} {lo hi l0 h0 l1 h1 l6 h6 : Nat} {dv sv rv : Value} {ds : List Int} (cop : Int) (D : OwN l0 h0 dv ds w) (S : OwStoreS l1 h1 sv (List.replicate ds.length ⟨[], [], 0⟩) w) (R : OwReaderS l6 h6 rv [newR, newR] w)
    (q : (lo ≤ l0 ∧ h0 ≤ hi) ∧ (lo ≤ l1 ∧ h1 ≤ hi) ∧ (lo ≤ l6 ∧ h6 ≤ hi) ∧ lo ≤ hi) (d01 : h0 ≤ l1 ∨ h1 ≤ l0) (d06 : h0 ≤ l6 ∨ h6 ≤ l0) (d16 : h1 ≤ l6 ∨ h6 ≤ l1) :
    OwWorld lo hi (.agg #[dv, .int .i64 cop, sv, .slice none 0 0, .slice none 0 0, .int .i64 0, .slice none 0 0, .slice none 0 0, rv, .slice none 0 0, .bool false]) (newW ds cop) w := by
  have nD : ∀ {n : Nat} {μ : Type} {Ow : Nat → Nat → Value → μ → World → Prop}, OwD n Ow lo lo (.slice none 0 0) ([] : List μ) w := ⟨[], fun _ => lo, rfl, OwnRw.nil _ _ _ _ (by omega), .inl rfl, ⟨Nat.le_refl _, fun _ _ => Nat.le_refl _, Nat.le_refl _⟩, fun i h => absurd h (by simp)⟩
  refine ⟨dv, sv, .slice none 0 0, .slice none 0 0, .slice none 0 0, .slice none 0 0, rv, .slice none 0 0, fun i => if i = 0 then l0 else if i = 1 then l1 else if i = 6 then l6 else lo, fun i => if i = 0 then h0 else if i = 1 then h1 else if i = 6 then h6 else lo, rfl, ⟨fun i hi' => ?_, fun i j hi' hj hn => ?_⟩, D, S, show OwN lo lo (.slice none 0 0) [] w from ⟨⟨by simp, none, 0, rfl, by simp, .inl rfl⟩, .inl rfl⟩, ?_, nD, nD, R, ⟨OwnRw.nil _ _ _ _ (by omega), .inl rfl⟩⟩
  · dsimp only
    repeat' split
    all_goals omega
  · dsimp only
    repeat' split
    all_goals omega
  · exact ⟨[], rfl, OwnRw.nil _ _ _ _ (by omega), .inl rfl, fun p hp => absurd hp (by simp), by simp [Apart]⟩
set_option maxHeartbeats 8000000 in
theorem specWorldNew_no (sv : Value) (ds : List Int) (cop : Int) (w : World) (hv : Ns w sv ds) (ha : allInt ds) (hl : ds.length ≤ 1048576) (c0 : -9223372036854775808 ≤ cop) (c1 : cop ≤ 9223372036854775807) (h : ¬ cfgP ds cop) :
    Calls Try.prog 5 #[.agg #[sv, .int .i64 cop]] w fun e w' => e = .returned (.tuple #[.agg #[.slice none 0 0, .int .i64 0, .slice none 0 0, .slice none 0 0, .slice none 0 0, .int .i64 0, .slice none 0 0, .slice none 0 0, .slice none 0 0, .slice none 0 0, .bool false], .bool false]) ∧ Below w.heap.size w w' := by
  have hb0 : ∀ o o2, Below w.heap.size w ((w.alloc o).alloc o2) := fun o o2 => ((Below.refl _ _).alloc (Nat.le_refl _) o).alloc (by simp) o2
  have C1 := dHide fun W (hb : Below w.heap.size w W) => specCfg_any _ ds cop W (hv.below hb)
  obtain ⟨-, a, cap, rfl, -, -⟩ := hv
  generalize ds.length = n at *
  have X0 := Bx.new w [.slice a n cap, .int .i64 cop] 26
  have Y0 := BxZ.new (w.alloc (.cells #[.slice a n cap, .int .i64 cop] 26)) [.slice none 0 0, .int .i64 0, .slice none 0 0, .slice none 0 0, .slice none 0 0, .int .i64 0, .slice none 0 0, .slice none 0 0, .slice none 0 0, .slice none 0 0, .bool false] 36 (B := w.heap.size) (by simp)
  go_enter Try.func5, Try.ntmps5
  go_wp2_with fail
  refine (dUnhide C1 _ (hb0 _ _)).mono ?_
  rintro e w1 ⟨q1, b1⟩
  obtain rfl := q1.of_no h
  have B1 := dHide (belowThen (hb0 _ _) b1)
  have X1 := ((X0.below ((Below.refl _ _).alloc (Nat.le_refl _) (.cells #[.slice none 0 0, .int .i64 0, .slice none 0 0, .slice none 0 0, .slice none 0 0, .int .i64 0, .slice none 0 0, .slice none 0 0, .slice none 0 0, .slice none 0 0, .bool false] 36)))).below b1
  have Y1 := Y0.below b1
  have hw1 : w.heap.size + 2 ≤ w1.heap.size := by have := b1.size; simp at this; omega
  have es : (w.alloc (.cells #[.slice a n cap, .int .i64 cop] 26)).heap.size = w.heap.size + 1 := by simp
  rw [es] at Y1
  clear b1 hb0 C1 q1 X0 Y0 es
  go_wp2_with (refine wp_putW rfl _ _ _ rfl rfl [.slice none 0 0, .int .i64 0, .slice none 0 0, .slice none 0 0, .slice none 0 0, .int .i64 0, .slice none 0 0, .slice none 0 0, .slice none 0 0, .slice none 0 0, .bool false] rfl rfl Y1 rfl (by kernel_rfl) (by kernel_rfl) ?_; intro w2 Y2 s2 g2 b2)
  have k0 := Y2.bx 0 _ rfl
  have k1 := Y2.bx 1 _ rfl
  have k2 := Y2.bx 2 _ rfl
  have k3 := Y2.bx 3 _ rfl
  have k4 := Y2.bx 4 _ rfl
  have k5 := Y2.bx 5 _ rfl
  have k6 := Y2.bx 6 _ rfl
  have k7 := Y2.bx 7 _ rfl
  have k8 := Y2.bx 8 _ rfl
  have k9 := Y2.bx 9 _ rfl
  have k10 := Y2.bx 10 _ rfl
  have B2 := (dUnhide B1).trans b2
  clear Y2 s2 g2 b2 X1 Y1 B1
  refine bodyPost_ret (v := .tuple #[.agg #[.slice none 0 0, .int .i64 0, .slice none 0 0, .slice none 0 0, .slice none 0 0, .int .i64 0, .slice none 0 0, .slice none 0 0, .slice none 0 0, .slice none 0 0, .bool false], .bool false]) (by simp [results, Try.results5, go_sem, k0, k1, k2, k3, k4, k5, k6, k7, k8, k9, k10]) rfl ⟨rfl, B2⟩
set_option maxHeartbeats 8000000 in
theorem implWorldNew_no (sv : Value) (ds : List Int) (cop : Int) (w : World) (hv : Ns w sv ds) (ha : allInt ds) (hl : ds.length ≤ 1048576) (c0 : -9223372036854775808 ≤ cop) (c1 : cop ≤ 9223372036854775807) (h : ¬ cfgP ds cop) :
    Calls Try.prog 7 #[.agg #[sv, .int .i64 cop]] w fun e w' => e = .returned (.tuple #[.agg #[.slice none 0 0, .int .i64 0, .slice none 0 0, .slice none 0 0, .slice none 0 0, .int .i64 0, .slice none 0 0, .slice none 0 0, .slice none 0 0, .slice none 0 0, .bool false], .bool false]) ∧ Below w.heap.size w w' := by
  have hb0 : ∀ o o2, Below w.heap.size w ((w.alloc o).alloc o2) := fun o o2 => ((Below.refl _ _).alloc (Nat.le_refl _) o).alloc (by simp) o2
  have C1 := dHide fun W (hb : Below w.heap.size w W) => implCfg_any _ ds cop W (hv.below hb) ha hl c0 c1
  obtain ⟨-, a, cap, rfl, -, -⟩ := hv
  generalize ds.length = n at *
  have X0 := Bx.new w [.slice a n cap, .int .i64 cop] 26
  have Y0 := BxZ.new (w.alloc (.cells #[.slice a n cap, .int .i64 cop] 26)) [.slice none 0 0, .int .i64 0, .slice none 0 0, .slice none 0 0, .slice none 0 0, .int .i64 0, .slice none 0 0, .slice none 0 0, .slice none 0 0, .slice none 0 0, .bool false] 36 (B := w.heap.size) (by simp)
  go_enter Try.func7, Try.ntmps7
  go_wp2_with fail
  refine (dUnhide C1 _ (hb0 _ _)).mono ?_
  rintro e w1 ⟨q1, b1⟩
  obtain rfl := q1.of_no h
  have B1 := dHide (belowThen (hb0 _ _) b1)
  have X1 := ((X0.below ((Below.refl _ _).alloc (Nat.le_refl _) (.cells #[.slice none 0 0, .int .i64 0, .slice none 0 0, .slice none 0 0, .slice none 0 0, .int .i64 0, .slice none 0 0, .slice none 0 0, .slice none 0 0, .slice none 0 0, .bool false] 36)))).below b1
  have Y1 := Y0.below b1
  have hw1 : w.heap.size + 2 ≤ w1.heap.size := by have := b1.size; simp at this; omega
  have es : (w.alloc (.cells #[.slice a n cap, .int .i64 cop] 26)).heap.size = w.heap.size + 1 := by simp
  rw [es] at Y1
  clear b1 hb0 C1 q1 X0 Y0 es
  go_wp2_with (refine wp_putW rfl _ _ _ rfl rfl [.slice none 0 0, .int .i64 0, .slice none 0 0, .slice none 0 0, .slice none 0 0, .int .i64 0, .slice none 0 0, .slice none 0 0, .slice none 0 0, .slice none 0 0, .bool false] rfl rfl Y1 rfl (by kernel_rfl) (by kernel_rfl) ?_; intro w2 Y2 s2 g2 b2)
  have k0 := Y2.bx 0 _ rfl
  have k1 := Y2.bx 1 _ rfl
  have k2 := Y2.bx 2 _ rfl
  have k3 := Y2.bx 3 _ rfl
  have k4 := Y2.bx 4 _ rfl
  have k5 := Y2.bx 5 _ rfl
  have k6 := Y2.bx 6 _ rfl
  have k7 := Y2.bx 7 _ rfl
  have k8 := Y2.bx 8 _ rfl
  have k9 := Y2.bx 9 _ rfl
  have k10 := Y2.bx 10 _ rfl
  have B2 := (dUnhide B1).trans b2
  clear Y2 s2 g2 b2 X1 Y1 B1
  refine bodyPost_ret (v := .tuple #[.agg #[.slice none 0 0, .int .i64 0, .slice none 0 0, .slice none 0 0, .slice none 0 0, .int .i64 0, .slice none 0 0, .slice none 0 0, .slice none 0 0, .slice none 0 0, .bool false], .bool false]) (by simp [results, Try.results7, go_sem, k0, k1, k2, k3, k4, k5, k6, k7, k8, k9, k10]) rfl ⟨rfl, B2⟩
set_option maxHeartbeats 8000000 in
theorem specWorldNew_yes (sv : Value) (ds : List Int) (cop : Int) (w : World) (hv : Ns w sv ds) (ha : allInt ds) (hl : ds.length ≤ 1048576) (c0 : -9223372036854775808 ≤ cop) (c1 : cop ≤ 9223372036854775807) (h : cfgP ds cop) :
    Calls Try.prog 5 #[.agg #[sv, .int .i64 cop]] w fun e w' => (∃ u, e = .returned (.tuple #[u, .bool true]) ∧ OwWorld w.heap.size w'.heap.size u (newW ds cop) w') ∧ Below w.heap.size w w' := by
  have hb0 : ∀ o o2, Below w.heap.size w ((w.alloc o).alloc o2) := fun o o2 => ((Below.refl _ _).alloc (Nat.le_refl _) o).alloc (by simp) o2
  have C1 := dHide fun W (hb : Below w.heap.size w W) => specCfg_any _ ds cop W (hv.below hb)
  have HV := dHide fun W (hb : Below w.heap.size w W) => hv.below hb
  obtain ⟨-, a, cap, rfl, -, -⟩ := hv
  have hn : Hid (1 ≤ ds.length ∧ ds.length ≤ 8) := h.1
  have X0 := Bx.new w [.slice a ds.length cap, .int .i64 cop] 26
  have Y0 := BxZ.new (w.alloc (.cells #[.slice a ds.length cap, .int .i64 cop] 26)) [.slice none 0 0, .int .i64 0, .slice none 0 0, .slice none 0 0, .slice none 0 0, .int .i64 0, .slice none 0 0, .slice none 0 0, .slice none 0 0, .slice none 0 0, .bool false] 36 (B := w.heap.size) (by simp)
  go_enter Try.func5, Try.ntmps5
  go_wp2_with fail
  refine (dUnhide C1 _ (hb0 _ _)).mono ?_
  rintro e w1 ⟨q1, b1⟩
  obtain rfl := q1.of_yes h
  have B1 := dHide (belowThen (hb0 _ _) b1)
  have X1 := ((X0.below ((Below.refl _ _).alloc (Nat.le_refl _) (.cells #[.slice none 0 0, .int .i64 0, .slice none 0 0, .slice none 0 0, .slice none 0 0, .int .i64 0, .slice none 0 0, .slice none 0 0, .slice none 0 0, .slice none 0 0, .bool false] 36)))).below b1
  have Y1 := Y0.below b1
  have hw1 : w.heap.size + 2 ≤ w1.heap.size := by have := b1.size; simp at this; omega
  have es : (w.alloc (.cells #[.slice a ds.length cap, .int .i64 cop] 26)).heap.size = w.heap.size + 1 := by simp
  rw [es] at Y1
  clear b1 hb0 C1 q1 X0 Y0 es
  have bdr : Below w1.heap.size w1 w1.drew := (Below.refl _ _).drew
  have hx : w1.cell? ⟨w.heap.size, 0, none⟩ = some (.slice a ds.length cap) ∧ w1.cell? ⟨w.heap.size, 1, none⟩ = some (.int .i64 cop) := ⟨X1 0 _ rfl, X1 1 _ rfl⟩
  have X := X1.below bdr
  have Y := Y1.below bdr
  have BB := belowThen (dUnhide B1) bdr
  have hs : w.heap.size + 2 ≤ w1.drew.heap.size := Nat.le_trans hw1 bdr.size
  clear X1 Y1 B1
  go_upto_region 3 with fail
  go_cut [4] (fun sv wx => ∃ xb da dc l0 h0, sv = .pointer (some ⟨xb, 0, none⟩) ∧ BxZ wx w.heap.size xb [.slice da ds.length dc, .int .i64 cop] ∧ Sits (OwN l0 h0 (.slice da ds.length dc) ds) l0 h0 wx ∧ (w.heap.size + 2 ≤ l0 ∧ w.heap.size + 2 ≤ xb ∧ w.heap.size + 2 ≤ wx.heap.size) ∧ Bx wx w.heap.size [.slice a ds.length cap, .int .i64 cop] ∧ BxZ wx w.heap.size (w.heap.size + 1) [.slice none 0 0, .int .i64 0, .slice none 0 0, .slice none 0 0, .slice none 0 0, .int .i64 0, .slice none 0 0, .slice none 0 0, .slice none 0 0, .slice none 0 0, .bool false] ∧ Below w.heap.size w wx)
  case first =>
    refine wp_region_noPanic ?_
    refine wp_region_held_drew (S := fun W => W.cell? ⟨w.heap.size, 0, none⟩ = some (.slice a ds.length cap) ∧ W.cell? ⟨w.heap.size, 1, none⟩ = some (.int .i64 cop)) (by kernel_rfl) (by first | exact ⟨X 0 _ rfl, X 1 _ rfl⟩ | exact hx) (fun hHeld => ?_)
    refine wpAnyH_take (i := 1) (oi := { dst := some 10, op := Op.fieldAddr 26 (Operand.tmp 1) 0, type := 0, pos := "l12_world.go:61", after := #[], guard := none }) (v := ?_) rfl (by kernel_rfl) (by kernel_rfl) (by kernel_rfl) (fun _ _ _ h => h) (Or.inl ⟨by rfl, ?_⟩) (by assumption) ?_
    rotate_left 1
    · intro w hSw
      (try dsimp only at hSw)
      first | (go_simp; done) | (go_simp; with_reducible rfl)
    try simp only [Act.put, List.setIfInBounds_toArray, List.set_cons_zero, List.set_cons_succ]
    refine wpAnyH_take (i := 2) (oi := { dst := some 11, op := Op.load 22 (Operand.tmp 10), type := 22, pos := "l12_world.go:61", after := #[{ on := 1, ground := Ground.data }], guard := none }) (v := ?_) rfl (by kernel_rfl) (by kernel_rfl) (by kernel_rfl) (fun _ _ _ h => h) (Or.inl ⟨by rfl, ?_⟩) (by assumption) ?_
    rotate_left 1
    · intro w hSw
      (try dsimp only at hSw)
      first | (go_simp; done) | (go_simp; with_reducible rfl)
    try simp only [Act.put, List.setIfInBounds_toArray, List.set_cons_zero, List.set_cons_succ]
    refine wpAnyH_take (i := 4) (oi := { dst := some 13, op := Op.fieldAddr 26 (Operand.tmp 1) 1, type := 0, pos := "l12_world.go:61", after := #[], guard := none }) (v := ?_) rfl (by kernel_rfl) (by kernel_rfl) (by kernel_rfl) (fun _ _ _ h => h) (Or.inl ⟨by rfl, ?_⟩) (by assumption) ?_
    rotate_left 1
    · intro w hSw
      (try dsimp only at hSw)
      first | (go_simp; done) | (go_simp; with_reducible rfl)
    try simp only [Act.put, List.setIfInBounds_toArray, List.set_cons_zero, List.set_cons_succ]
    refine wpAnyH_take (i := 5) (oi := { dst := some 14, op := Op.load 3 (Operand.tmp 13), type := 3, pos := "l12_world.go:61", after := #[{ on := 4, ground := Ground.data }], guard := none }) (v := ?_) rfl (by kernel_rfl) (by kernel_rfl) (by kernel_rfl) (fun _ _ _ h => h) (Or.inl ⟨by rfl, ?_⟩) (by assumption) ?_
    rotate_left 1
    · intro w hSw
      (try dsimp only at hSw)
      first | (go_simp; done) | (go_simp; with_reducible rfl)
    try simp only [Act.put, List.setIfInBounds_toArray, List.set_cons_zero, List.set_cons_succ]
    refine wpAnyH_ready (rs := [0, 7]) (by kernel_rfl) (by simp) ?_
    refine AllReadyH.cons (o := { dst := some 9, op := Op.buildSlice 22 0 #[], type := 22, pos := "l12_world.go:61", after := #[], guard := none }) rfl (fun K hK => ?_) (AllReadyH.cons (o := { dst := some 4, op := Op.alloc 26, type := 0, pos := "l12_world.go:61", after := #[], guard := none }) rfl (fun K hK => ?_) AllReadyH.nil)
    · clear hx bdr hw1
      generalize w1.drew = wd at *
      refine step_made makeInts rfl rfl ?_
      intro wd a0 b
      have sz := b.size
      replace X := X.below b
      replace Y := Y.below b
      replace BB := belowThen BB b
      replace hs := Nat.le_trans hs b.size
      try replace L := L.below b
      try replace D := D.below b
      try replace SS := SS.below b
      try replace RR := RR.below b
      clear b
      refine hK.out _ _ (by first | exact ⟨X 0 _ rfl, X 1 _ rfl⟩ | exact hx) (fun hHeld => ?_)
      clear hK K
      try simp only [Act.put, List.setIfInBounds_toArray, List.set_cons_zero, List.set_cons_succ]
      refine wpAnyH_ready (rs := [3, 7]) (by kernel_rfl) (by simp) ?_
      refine AllReadyH.cons (o := { dst := some 12, op := Op.call { callee := Callee.builtin Builtin.append, args := #[Operand.tmp 9, Operand.tmp 11], argTypes := #[22, 22] }, type := 22, pos := "l12_world.go:61", after := #[{ on := 0, ground := Ground.data }, { on := 2, ground := Ground.data }], guard := none }) rfl (fun K hK => ?_) (AllReadyH.cons (o := { dst := some 4, op := Op.alloc 26, type := 0, pos := "l12_world.go:61", after := #[], guard := none }) rfl (fun K hK => ?_) AllReadyH.nil)
      · have hlo := hs
        refine step_cpN rfl _ _ rfl _ rfl _ ds rfl (dUnhide HV _ BB) (by have := dUnhide hn; omega) ?_
        intro dv wd O b
        obtain ⟨-, da, dc, rfl, -, -⟩ := O.bs
        have sz := b.size
        replace X := X.below b
        replace Y := Y.below b
        replace BB := belowThen BB b
        replace hs := Nat.le_trans hs b.size
        try replace L := L.below b
        try replace D := D.below b
        try replace SS := SS.below b
        try replace RR := RR.below b
        clear b
        have D := OwN.sits ⟨O, O.bs.lt⟩ (Nat.le_refl _)
        clear O
        refine hK.out _ _ (by first | exact ⟨X 0 _ rfl, X 1 _ rfl⟩ | exact hx) (fun hHeld => ?_)
        clear hK K
        try simp only [Act.put, List.setIfInBounds_toArray, List.set_cons_zero, List.set_cons_succ]
        refine wpAnyH_take (i := 6) (oi := { dst := some 15, op := Op.build 26 #[(0, Operand.tmp 12), (1, Operand.tmp 14)], type := 26, pos := "l12_world.go:61", after := #[{ on := 3, ground := Ground.data }, { on := 5, ground := Ground.data }], guard := none }) (v := ?_) rfl (by kernel_rfl) (by kernel_rfl) (by kernel_rfl) (fun _ _ _ h => h) (Or.inl ⟨by rfl, ?_⟩) (by assumption) ?_
        rotate_left 1
        · intro w hSw
          (try dsimp only at hSw)
          first | (go_simp; done) | (go_simp; with_reducible rfl)
        try simp only [Act.put, List.setIfInBounds_toArray, List.set_cons_zero, List.set_cons_succ]
        refine wpAnyH_ready (rs := [7]) (by kernel_rfl) (by simp) ?_
        refine AllReadyH.cons (o := { dst := some 4, op := Op.alloc 26, type := 0, pos := "l12_world.go:61", after := #[], guard := none }) rfl (fun K hK => ?_) AllReadyH.nil
        try have f0 := D.fit
        try have f1 := SS.fit
        try have f2 := RR.fit
        refine step_alloc allocConfig rfl rfl w.heap.size (by omega) ?_
        intro wd xb L b hx1 hx2
        have hxb : w.heap.size + 2 ≤ xb := by omega
        have sz := b.size
        replace X := X.below b
        replace Y := Y.below b
        replace BB := belowThen BB b
        replace hs := Nat.le_trans hs b.size
        try replace D := D.below b
        try replace SS := SS.below b
        try replace RR := RR.below b
        clear b
        refine hK.out _ _ (by first | exact ⟨X 0 _ rfl, X 1 _ rfl⟩ | exact hx) (fun hHeld => ?_)
        clear hK K
        try simp only [Act.put, List.setIfInBounds_toArray, List.set_cons_zero, List.set_cons_succ]
        refine wpAnyH_ready (rs := [8]) (by kernel_rfl) (by simp) ?_
        refine AllReadyH.cons (o := { dst := none, op := Op.store 26 (Operand.tmp 4) (Operand.tmp 15), type := 0, pos := "l12_world.go:61", after := #[{ on := 7, ground := Ground.data }, { on := 6, ground := Ground.data }, { on := 3, ground := Ground.chain }, { on := 0, ground := Ground.phase }, { on := 1, ground := Ground.phase }, { on := 2, ground := Ground.phase }, { on := 3, ground := Ground.phase }, { on := 4, ground := Ground.phase }, { on := 5, ground := Ground.phase }, { on := 6, ground := Ground.phase }, { on := 7, ground := Ground.phase }], guard := none }) rfl (fun K hK => ?_) AllReadyH.nil
        refine step_putW rfl _ _ _ rfl rfl [.slice da ds.length dc, .int .i64 cop] rfl rfl L rfl (by kernel_rfl) (by kernel_rfl) ?_
        clear L
        intro wd L s g b
        replace X := X.off g (by omega)
        replace Y := Y.off g (by omega)
        replace BB := BB.trans b
        replace hs : w.heap.size + 2 ≤ wd.heap.size := by omega
        have hxd := D.fit
        clear b
        replace D := D.off g (by omega) s
        clear g
        refine hK.out _ _ (by first | exact ⟨X 0 _ rfl, X 1 _ rfl⟩ | exact hx) (fun hHeld => ?_)
        clear hK K
        try simp only [Act.put, List.setIfInBounds_toArray, List.set_cons_zero, List.set_cons_succ]
        refine wpAnyH_done (by kernel_rfl) ?_ _
        refine NoPanic.normal ?_
        go_wp2_with fail
        go_meet
        case rel => exact ⟨xb, da, dc, _, _, rfl, L, D, ⟨by omega, by omega, by omega⟩, X, Y, BB⟩
      · try have f0 := D.fit
        try have f1 := SS.fit
        try have f2 := RR.fit
        refine step_alloc allocConfig rfl rfl w.heap.size (by omega) ?_
        intro wd xb L b hx1 hx2
        have hxb : w.heap.size + 2 ≤ xb := by omega
        have sz := b.size
        replace X := X.below b
        replace Y := Y.below b
        replace BB := belowThen BB b
        replace hs := Nat.le_trans hs b.size
        try replace D := D.below b
        try replace SS := SS.below b
        try replace RR := RR.below b
        clear b
        refine hK.out _ _ (by first | exact ⟨X 0 _ rfl, X 1 _ rfl⟩ | exact hx) (fun hHeld => ?_)
        clear hK K
        try simp only [Act.put, List.setIfInBounds_toArray, List.set_cons_zero, List.set_cons_succ]
        refine wpAnyH_ready (rs := [3]) (by kernel_rfl) (by simp) ?_
        refine AllReadyH.cons (o := { dst := some 12, op := Op.call { callee := Callee.builtin Builtin.append, args := #[Operand.tmp 9, Operand.tmp 11], argTypes := #[22, 22] }, type := 22, pos := "l12_world.go:61", after := #[{ on := 0, ground := Ground.data }, { on := 2, ground := Ground.data }], guard := none }) rfl (fun K hK => ?_) AllReadyH.nil
        have hlo := hs
        refine step_cpN rfl _ _ rfl _ rfl _ ds rfl (dUnhide HV _ BB) (by have := dUnhide hn; omega) ?_
        intro dv wd O b
        obtain ⟨-, da, dc, rfl, -, -⟩ := O.bs
        have sz := b.size
        replace X := X.below b
        replace Y := Y.below b
        replace BB := belowThen BB b
        replace hs := Nat.le_trans hs b.size
        try replace L := L.below b
        try replace D := D.below b
        try replace SS := SS.below b
        try replace RR := RR.below b
        clear b
        have D := OwN.sits ⟨O, O.bs.lt⟩ (Nat.le_refl _)
        clear O
        refine hK.out _ _ (by first | exact ⟨X 0 _ rfl, X 1 _ rfl⟩ | exact hx) (fun hHeld => ?_)
        clear hK K
        try simp only [Act.put, List.setIfInBounds_toArray, List.set_cons_zero, List.set_cons_succ]
        refine wpAnyH_take (i := 6) (oi := { dst := some 15, op := Op.build 26 #[(0, Operand.tmp 12), (1, Operand.tmp 14)], type := 26, pos := "l12_world.go:61", after := #[{ on := 3, ground := Ground.data }, { on := 5, ground := Ground.data }], guard := none }) (v := ?_) rfl (by kernel_rfl) (by kernel_rfl) (by kernel_rfl) (fun _ _ _ h => h) (Or.inl ⟨by rfl, ?_⟩) (by assumption) ?_
        rotate_left 1
        · intro w hSw
          (try dsimp only at hSw)
          first | (go_simp; done) | (go_simp; with_reducible rfl)
        try simp only [Act.put, List.setIfInBounds_toArray, List.set_cons_zero, List.set_cons_succ]
        refine wpAnyH_ready (rs := [8]) (by kernel_rfl) (by simp) ?_
        refine AllReadyH.cons (o := { dst := none, op := Op.store 26 (Operand.tmp 4) (Operand.tmp 15), type := 0, pos := "l12_world.go:61", after := #[{ on := 7, ground := Ground.data }, { on := 6, ground := Ground.data }, { on := 3, ground := Ground.chain }, { on := 0, ground := Ground.phase }, { on := 1, ground := Ground.phase }, { on := 2, ground := Ground.phase }, { on := 3, ground := Ground.phase }, { on := 4, ground := Ground.phase }, { on := 5, ground := Ground.phase }, { on := 6, ground := Ground.phase }, { on := 7, ground := Ground.phase }], guard := none }) rfl (fun K hK => ?_) AllReadyH.nil
        refine step_putW rfl _ _ _ rfl rfl [.slice da ds.length dc, .int .i64 cop] rfl rfl L rfl (by kernel_rfl) (by kernel_rfl) ?_
        clear L
        intro wd L s g b
        replace X := X.off g (by omega)
        replace Y := Y.off g (by omega)
        replace BB := BB.trans b
        replace hs : w.heap.size + 2 ≤ wd.heap.size := by omega
        have hxd := D.fit
        clear b
        replace D := D.off g (by omega) s
        clear g
        refine hK.out _ _ (by first | exact ⟨X 0 _ rfl, X 1 _ rfl⟩ | exact hx) (fun hHeld => ?_)
        clear hK K
        try simp only [Act.put, List.setIfInBounds_toArray, List.set_cons_zero, List.set_cons_succ]
        refine wpAnyH_done (by kernel_rfl) ?_ _
        refine NoPanic.normal ?_
        go_wp2_with fail
        go_meet
        case rel => exact ⟨xb, da, dc, _, _, rfl, L, D, ⟨by omega, by omega, by omega⟩, X, Y, BB⟩
    · clear hx bdr hw1
      generalize w1.drew = wd at *
      try have f0 := D.fit
      try have f1 := SS.fit
      try have f2 := RR.fit
      refine step_alloc allocConfig rfl rfl w.heap.size (by omega) ?_
      intro wd xb L b hx1 hx2
      have hxb : w.heap.size + 2 ≤ xb := by omega
      have sz := b.size
      replace X := X.below b
      replace Y := Y.below b
      replace BB := belowThen BB b
      replace hs := Nat.le_trans hs b.size
      try replace D := D.below b
      try replace SS := SS.below b
      try replace RR := RR.below b
      clear b
      refine hK.out _ _ (by first | exact ⟨X 0 _ rfl, X 1 _ rfl⟩ | exact hx) (fun hHeld => ?_)
      clear hK K
      try simp only [Act.put, List.setIfInBounds_toArray, List.set_cons_zero, List.set_cons_succ]
      refine wpAnyH_ready (rs := [0]) (by kernel_rfl) (by simp) ?_
      refine AllReadyH.cons (o := { dst := some 9, op := Op.buildSlice 22 0 #[], type := 22, pos := "l12_world.go:61", after := #[], guard := none }) rfl (fun K hK => ?_) AllReadyH.nil
      refine step_made makeInts rfl rfl ?_
      intro wd a0 b
      have sz := b.size
      replace X := X.below b
      replace Y := Y.below b
      replace BB := belowThen BB b
      replace hs := Nat.le_trans hs b.size
      try replace L := L.below b
      try replace D := D.below b
      try replace SS := SS.below b
      try replace RR := RR.below b
      clear b
      refine hK.out _ _ (by first | exact ⟨X 0 _ rfl, X 1 _ rfl⟩ | exact hx) (fun hHeld => ?_)
      clear hK K
      try simp only [Act.put, List.setIfInBounds_toArray, List.set_cons_zero, List.set_cons_succ]
      refine wpAnyH_ready (rs := [3]) (by kernel_rfl) (by simp) ?_
      refine AllReadyH.cons (o := { dst := some 12, op := Op.call { callee := Callee.builtin Builtin.append, args := #[Operand.tmp 9, Operand.tmp 11], argTypes := #[22, 22] }, type := 22, pos := "l12_world.go:61", after := #[{ on := 0, ground := Ground.data }, { on := 2, ground := Ground.data }], guard := none }) rfl (fun K hK => ?_) AllReadyH.nil
      have hlo := hs
      refine step_cpN rfl _ _ rfl _ rfl _ ds rfl (dUnhide HV _ BB) (by have := dUnhide hn; omega) ?_
      intro dv wd O b
      obtain ⟨-, da, dc, rfl, -, -⟩ := O.bs
      have sz := b.size
      replace X := X.below b
      replace Y := Y.below b
      replace BB := belowThen BB b
      replace hs := Nat.le_trans hs b.size
      try replace L := L.below b
      try replace D := D.below b
      try replace SS := SS.below b
      try replace RR := RR.below b
      clear b
      have D := OwN.sits ⟨O, O.bs.lt⟩ (Nat.le_refl _)
      clear O
      refine hK.out _ _ (by first | exact ⟨X 0 _ rfl, X 1 _ rfl⟩ | exact hx) (fun hHeld => ?_)
      clear hK K
      try simp only [Act.put, List.setIfInBounds_toArray, List.set_cons_zero, List.set_cons_succ]
      refine wpAnyH_take (i := 6) (oi := { dst := some 15, op := Op.build 26 #[(0, Operand.tmp 12), (1, Operand.tmp 14)], type := 26, pos := "l12_world.go:61", after := #[{ on := 3, ground := Ground.data }, { on := 5, ground := Ground.data }], guard := none }) (v := ?_) rfl (by kernel_rfl) (by kernel_rfl) (by kernel_rfl) (fun _ _ _ h => h) (Or.inl ⟨by rfl, ?_⟩) (by assumption) ?_
      rotate_left 1
      · intro w hSw
        (try dsimp only at hSw)
        first | (go_simp; done) | (go_simp; with_reducible rfl)
      try simp only [Act.put, List.setIfInBounds_toArray, List.set_cons_zero, List.set_cons_succ]
      refine wpAnyH_ready (rs := [8]) (by kernel_rfl) (by simp) ?_
      refine AllReadyH.cons (o := { dst := none, op := Op.store 26 (Operand.tmp 4) (Operand.tmp 15), type := 0, pos := "l12_world.go:61", after := #[{ on := 7, ground := Ground.data }, { on := 6, ground := Ground.data }, { on := 3, ground := Ground.chain }, { on := 0, ground := Ground.phase }, { on := 1, ground := Ground.phase }, { on := 2, ground := Ground.phase }, { on := 3, ground := Ground.phase }, { on := 4, ground := Ground.phase }, { on := 5, ground := Ground.phase }, { on := 6, ground := Ground.phase }, { on := 7, ground := Ground.phase }], guard := none }) rfl (fun K hK => ?_) AllReadyH.nil
      refine step_putW rfl _ _ _ rfl rfl [.slice da ds.length dc, .int .i64 cop] rfl rfl L rfl (by kernel_rfl) (by kernel_rfl) ?_
      clear L
      intro wd L s g b
      replace X := X.off g (by omega)
      replace Y := Y.off g (by omega)
      replace BB := BB.trans b
      replace hs : w.heap.size + 2 ≤ wd.heap.size := by omega
      have hxd := D.fit
      clear b
      replace D := D.off g (by omega) s
      clear g
      refine hK.out _ _ (by first | exact ⟨X 0 _ rfl, X 1 _ rfl⟩ | exact hx) (fun hHeld => ?_)
      clear hK K
      try simp only [Act.put, List.setIfInBounds_toArray, List.set_cons_zero, List.set_cons_succ]
      refine wpAnyH_done (by kernel_rfl) ?_ _
      refine NoPanic.normal ?_
      go_wp2_with fail
      go_meet
      case rel => exact ⟨xb, da, dc, _, _, rfl, L, D, ⟨by omega, by omega, by omega⟩, X, Y, BB⟩
  case rest =>
    clear X Y BB hx bdr hs hw1
    obtain ⟨xb, da, dc, l0, h0, rfl, L, D, ⟨hl0, hxb, hs⟩, X, Y, BB⟩ := hcut
    have bdr : Below wc.heap.size wc wc.drew := (Below.refl _ _).drew
    have hx : (wc.cell? ⟨w.heap.size, 0, none⟩ = some (.slice a ds.length cap) ∧ wc.cell? ⟨w.heap.size, 1, none⟩ = some (.int .i64 cop)) ∧ wc.cell? ⟨xb, 0, none⟩ = some (.slice da ds.length dc) ∧ wc.cell? ⟨xb, 1, none⟩ = some (.int .i64 cop) := ⟨⟨X 0 _ rfl, X 1 _ rfl⟩, (L.2 0 _ rfl).1, (L.2 1 _ rfl).1⟩
    replace X := X.below bdr
    replace Y := Y.below bdr
    replace L := L.below bdr
    replace D := D.below bdr
    replace BB := belowThen BB bdr
    replace hs := Nat.le_trans hs bdr.size
    go_wp2_with fail
    refine wp_region_noPanic ?_
    refine wp_region_held_drew (S := fun W => (W.cell? ⟨w.heap.size, 0, none⟩ = some (.slice a ds.length cap) ∧ W.cell? ⟨w.heap.size, 1, none⟩ = some (.int .i64 cop)) ∧ W.cell? ⟨xb, 0, none⟩ = some (.slice da ds.length dc) ∧ W.cell? ⟨xb, 1, none⟩ = some (.int .i64 cop)) (by kernel_rfl) (by first | exact ⟨⟨X 0 _ rfl, X 1 _ rfl⟩, (L.2 0 _ rfl).1, (L.2 1 _ rfl).1⟩ | exact hx) (fun hHeld => ?_)
    refine wpAnyH_take (i := 0) (oi := { dst := some 16, op := Op.load 26 (Operand.tmp 4), type := 26, pos := "l12_world.go:62", after := #[], guard := none }) (v := ?_) rfl (by kernel_rfl) (by kernel_rfl) (by kernel_rfl) (fun _ _ _ h => h) (Or.inl ⟨by rfl, ?_⟩) (by assumption) ?_
    rotate_left 1
    · intro w hSw
      (try dsimp only at hSw)
      first | (go_simp; done) | (go_simp; with_reducible rfl)
    try simp only [Act.put, List.setIfInBounds_toArray, List.set_cons_zero, List.set_cons_succ]
    refine wpAnyH_take (i := 1) (oi := { dst := some 17, op := Op.fieldAddr 26 (Operand.tmp 1) 0, type := 0, pos := "l12_world.go:62", after := #[], guard := none }) (v := ?_) rfl (by kernel_rfl) (by kernel_rfl) (by kernel_rfl) (fun _ _ _ h => h) (Or.inl ⟨by rfl, ?_⟩) (by assumption) ?_
    rotate_left 1
    · intro w hSw
      (try dsimp only at hSw)
      first | (go_simp; done) | (go_simp; with_reducible rfl)
    try simp only [Act.put, List.setIfInBounds_toArray, List.set_cons_zero, List.set_cons_succ]
    refine wpAnyH_take (i := 2) (oi := { dst := some 18, op := Op.load 22 (Operand.tmp 17), type := 22, pos := "l12_world.go:62", after := #[{ on := 1, ground := Ground.data }], guard := none }) (v := ?_) rfl (by kernel_rfl) (by kernel_rfl) (by kernel_rfl) (fun _ _ _ h => h) (Or.inl ⟨by rfl, ?_⟩) (by assumption) ?_
    rotate_left 1
    · intro w hSw
      (try dsimp only at hSw)
      first | (go_simp; done) | (go_simp; with_reducible rfl)
    try simp only [Act.put, List.setIfInBounds_toArray, List.set_cons_zero, List.set_cons_succ]
    refine wpAnyH_take (i := 3) (oi := { dst := some 19, op := Op.call { callee := Callee.builtin Builtin.len, args := #[Operand.tmp 18], argTypes := #[22] }, type := 3, pos := "l12_world.go:62", after := #[{ on := 2, ground := Ground.data }], guard := none }) (v := ?_) rfl (by kernel_rfl) (by kernel_rfl) (by kernel_rfl) (fun _ _ _ h => h) (Or.inl ⟨by rfl, ?_⟩) (by assumption) ?_
    rotate_left 1
    · intro w hSw
      (try dsimp only at hSw)
      first | (go_simp; done) | (go_simp; with_reducible rfl)
    try simp only [Act.put, List.setIfInBounds_toArray, List.set_cons_zero, List.set_cons_succ]
    refine wpAnyH_ready (rs := [4, 5]) (by kernel_rfl) (by simp) ?_
    refine AllReadyH.cons (o := { dst := some 20, op := Op.makeSlice 27 (Operand.tmp 19) (Operand.tmp 19), type := 27, pos := "l12_world.go:62", after := #[{ on := 3, ground := Ground.data }, { on := 3, ground := Ground.data }], guard := none }) rfl (fun K hK => ?_) (AllReadyH.cons (o := { dst := some 21, op := Op.call { callee := Callee.value (Operand.func 15), args := #[], argTypes := #[] }, type := 49, pos := "l12_world.go:62", after := #[], guard := none }) rfl (fun K hK => ?_) AllReadyH.nil)
    · clear hx bdr
      generalize wc.drew = wd at *
      try have f0 := D.fit
      try have f1 := SS.fit
      try have f2 := RR.fit
      have hlo4 := hs
      refine step_mkW rfl _ _ _ rfl _ _ rfl rfl (makeS ds.length (by omega) wd) ?_
      have SS0 := storesNew wd ds.length (by omega)
      have b : Below wd.heap.size wd (wd.alloc (.cells (madeCells (Value.agg #[.slice none 0 0, .slice none 0 0, .int .i64 0]).cells (ds.length * 3)) 69)) := (Below.refl _ _).alloc (Nat.le_refl _) _
      have es : wd.heap.size + 1 ≤ (wd.alloc (.cells (madeCells (Value.agg #[.slice none 0 0, .slice none 0 0, .int .i64 0]).cells (ds.length * 3)) 69)).heap.size := by simp
      have sz := b.size
      replace X := X.below b
      replace Y := Y.below b
      replace BB := belowThen BB b
      replace hs := Nat.le_trans hs b.size
      try replace L := L.below b
      try replace D := D.below b
      try replace SS := SS.below b
      try replace RR := RR.below b
      clear b
      have SS := SS0
      clear SS0
      generalize wd.heap.size = sb at *
      generalize wd.alloc (.cells (madeCells (Value.agg #[.slice none 0 0, .slice none 0 0, .int .i64 0]).cells (ds.length * 3)) 69) = wd at *
      refine hK.out _ _ (by first | exact ⟨⟨X 0 _ rfl, X 1 _ rfl⟩, (L.2 0 _ rfl).1, (L.2 1 _ rfl).1⟩ | exact hx) (fun hHeld => ?_)
      clear hK K
      try simp only [Act.put, List.setIfInBounds_toArray, List.set_cons_zero, List.set_cons_succ]
      refine wpAnyH_ready (rs := [5]) (by kernel_rfl) (by simp) ?_
      refine AllReadyH.cons (o := { dst := some 21, op := Op.call { callee := Callee.value (Operand.func 15), args := #[], argTypes := #[] }, type := 49, pos := "l12_world.go:62", after := #[], guard := none }) rfl (fun K hK => ?_) AllReadyH.nil
      go_simp
      refine (specReaderNew_any wd).mono ?_
      rintro e wd ⟨rfl, b⟩
      have sz := b.size
      replace X := X.below b
      replace Y := Y.below b
      replace BB := belowThen BB b
      replace hs := Nat.le_trans hs b.size
      try replace L := L.below b
      try replace D := D.below b
      try replace SS := SS.below b
      try replace RR := RR.below b
      clear b
      refine hK.out _ _ (by first | exact ⟨⟨X 0 _ rfl, X 1 _ rfl⟩, (L.2 0 _ rfl).1, (L.2 1 _ rfl).1⟩ | exact hx) (fun hHeld => ?_)
      clear hK K
      try simp only [Act.put, List.setIfInBounds_toArray, List.set_cons_zero, List.set_cons_succ]
      refine wpAnyH_ready (rs := [6]) (by kernel_rfl) (by simp) ?_
      refine AllReadyH.cons (o := { dst := some 22, op := Op.call { callee := Callee.value (Operand.func 15), args := #[], argTypes := #[] }, type := 49, pos := "l12_world.go:62", after := #[{ on := 5, ground := Ground.chain }], guard := none }) rfl (fun K hK => ?_) AllReadyH.nil
      go_simp
      refine (specReaderNew_any wd).mono ?_
      rintro e wd ⟨rfl, b⟩
      have sz := b.size
      replace X := X.below b
      replace Y := Y.below b
      replace BB := belowThen BB b
      replace hs := Nat.le_trans hs b.size
      try replace L := L.below b
      try replace D := D.below b
      try replace SS := SS.below b
      try replace RR := RR.below b
      clear b
      refine hK.out _ _ (by first | exact ⟨⟨X 0 _ rfl, X 1 _ rfl⟩, (L.2 0 _ rfl).1, (L.2 1 _ rfl).1⟩ | exact hx) (fun hHeld => ?_)
      clear hK K
      try simp only [Act.put, List.setIfInBounds_toArray, List.set_cons_zero, List.set_cons_succ]
      refine wpAnyH_ready (rs := [7]) (by kernel_rfl) (by simp) ?_
      refine AllReadyH.cons (o := { dst := some 23, op := Op.buildSlice 33 2 #[(0, Operand.tmp 21), (1, Operand.tmp 22)], type := 33, pos := "l12_world.go:62", after := #[{ on := 5, ground := Ground.data }, { on := 6, ground := Ground.data }], guard := none }) rfl (fun K hK => ?_) AllReadyH.nil
      try have f0 := D.fit
      try have f1 := SS.fit
      try have f2 := RR.fit
      have hlo7 := hs
      go_simp
      have RR0 := readersNew wd
      have b : Below wd.heap.size wd (wd.alloc (.cells #[.int .i64 1, .int .i64 1, .slice none 0 0, .int .i64 1, .int .i64 1, .slice none 0 0] 49)) := (Below.refl _ _).alloc (Nat.le_refl _) _
      have es : wd.heap.size + 1 ≤ (wd.alloc (.cells #[.int .i64 1, .int .i64 1, .slice none 0 0, .int .i64 1, .int .i64 1, .slice none 0 0] 49)).heap.size := by simp
      have sz := b.size
      replace X := X.below b
      replace Y := Y.below b
      replace BB := belowThen BB b
      replace hs := Nat.le_trans hs b.size
      try replace L := L.below b
      try replace D := D.below b
      try replace SS := SS.below b
      try replace RR := RR.below b
      clear b
      have RR := RR0
      clear RR0
      generalize wd.heap.size = rb at *
      generalize wd.alloc (.cells #[.int .i64 1, .int .i64 1, .slice none 0 0, .int .i64 1, .int .i64 1, .slice none 0 0] 49) = wd at *
      refine hK.out _ _ (by first | exact ⟨⟨X 0 _ rfl, X 1 _ rfl⟩, (L.2 0 _ rfl).1, (L.2 1 _ rfl).1⟩ | exact hx) (fun hHeld => ?_)
      clear hK K
      try simp only [Act.put, List.setIfInBounds_toArray, List.set_cons_zero, List.set_cons_succ]
      refine wpAnyH_take (i := 8) (oi := { dst := some 24, op := Op.build 36 #[(0, Operand.tmp 16), (1, Operand.tmp 20), (6, Operand.tmp 23)], type := 36, pos := "l12_world.go:62", after := #[{ on := 0, ground := Ground.data }, { on := 4, ground := Ground.data }, { on := 7, ground := Ground.data }], guard := none }) (v := ?_) rfl (by kernel_rfl) (by kernel_rfl) (by kernel_rfl) (fun _ _ _ h => h) (Or.inl ⟨by rfl, ?_⟩) (by assumption) ?_
      rotate_left 1
      · intro w hSw
        (try dsimp only at hSw)
        first | (go_simp; done) | (go_simp; with_reducible rfl)
      try simp only [Act.put, List.setIfInBounds_toArray, List.set_cons_zero, List.set_cons_succ]
      refine wpAnyH_ready (rs := [9]) (by kernel_rfl) (by simp) ?_
      refine AllReadyH.cons (o := { dst := none, op := Op.store 36 (Operand.tmp 2) (Operand.tmp 24), type := 0, pos := "l12_world.go:62", after := #[{ on := 8, ground := Ground.data }, { on := 6, ground := Ground.chain }, { on := 0, ground := Ground.phase }, { on := 1, ground := Ground.phase }, { on := 2, ground := Ground.phase }, { on := 3, ground := Ground.phase }, { on := 4, ground := Ground.phase }, { on := 5, ground := Ground.phase }, { on := 6, ground := Ground.phase }, { on := 7, ground := Ground.phase }, { on := 8, ground := Ground.phase }], guard := none }) rfl (fun K hK => ?_) AllReadyH.nil
      have f0 := D.fit
      have f1 := SS.fit
      have f2 := RR.fit
      refine step_putW rfl _ _ _ rfl rfl [.slice da ds.length dc, .int .i64 cop, .slice (some ⟨sb, 0, none⟩) ds.length ds.length, .slice none 0 0, .slice none 0 0, .int .i64 0, .slice none 0 0, .slice none 0 0, .slice (some ⟨rb, 0, none⟩) 2 2, .slice none 0 0, .bool false] rfl rfl Y rfl (by kernel_rfl) (by kernel_rfl) ?_
      clear Y
      intro wd Y s g b
      replace D := D.off g (by omega) s
      replace SS := SS.off g (by omega) s
      replace RR := RR.off g (by omega) s
      replace X := X.off g (by omega)
      try replace L := L.off g (by omega)
      replace BB := BB.trans b
      clear g b
      refine hK.out _ _ (by first | exact ⟨⟨X 0 _ rfl, X 1 _ rfl⟩, (L.2 0 _ rfl).1, (L.2 1 _ rfl).1⟩ | exact hx) (fun hHeld => ?_)
      clear hK K
      try simp only [Act.put, List.setIfInBounds_toArray, List.set_cons_zero, List.set_cons_succ]
      refine wpAnyH_take (i := 10) (oi := { dst := some 3, op := Op.assign (Operand.const (Value.bool true)), type := 4, pos := "l12_world.go:62", after := #[{ on := 9, ground := Ground.chain }, { on := 0, ground := Ground.phase }, { on := 1, ground := Ground.phase }, { on := 2, ground := Ground.phase }, { on := 3, ground := Ground.phase }, { on := 4, ground := Ground.phase }, { on := 5, ground := Ground.phase }, { on := 6, ground := Ground.phase }, { on := 7, ground := Ground.phase }, { on := 8, ground := Ground.phase }, { on := 9, ground := Ground.phase }], guard := none }) (v := ?_) rfl (by kernel_rfl) (by kernel_rfl) (by kernel_rfl) (fun _ _ _ h => h) (Or.inl ⟨by rfl, ?_⟩) (by assumption) ?_
      rotate_left 1
      · intro w hSw
        (try dsimp only at hSw)
        first | (go_simp; done) | (go_simp; with_reducible rfl)
      try simp only [Act.put, List.setIfInBounds_toArray, List.set_cons_zero, List.set_cons_succ]
      refine wpAnyH_done (by kernel_rfl) ?_ _
      refine NoPanic.normal ?_
      have k0 := (Y.2 0 _ rfl).1
      have k1 := (Y.2 1 _ rfl).1
      have k2 := (Y.2 2 _ rfl).1
      have k3 := (Y.2 3 _ rfl).1
      have k4 := (Y.2 4 _ rfl).1
      have k5 := (Y.2 5 _ rfl).1
      have k6 := (Y.2 6 _ rfl).1
      have k7 := (Y.2 7 _ rfl).1
      have k8 := (Y.2 8 _ rfl).1
      have k9 := (Y.2 9 _ rfl).1
      have k10 := (Y.2 10 _ rfl).1
      have QQ := owNew (lo := w.heap.size) (hi := wd.heap.size) cop D.now SS.now RR.now ⟨⟨by omega, by omega⟩, ⟨by omega, by omega⟩, ⟨by omega, by omega⟩, by omega⟩ (by omega) (by omega) (by omega)
      clear D SS RR X Y
      go_wp2_with fail
      refine bodyPost_ret (v := .tuple #[.agg #[.slice da ds.length dc, .int .i64 cop, .slice (some ⟨sb, 0, none⟩) ds.length ds.length, .slice none 0 0, .slice none 0 0, .int .i64 0, .slice none 0 0, .slice none 0 0, .slice (some ⟨rb, 0, none⟩) 2 2, .slice none 0 0, .bool false], .bool true]) (by simp [results, Try.results5, go_sem, k0, k1, k2, k3, k4, k5, k6, k7, k8, k9, k10]) rfl ⟨⟨_, rfl, QQ⟩, BB⟩
    · clear hx bdr
      generalize wc.drew = wd at *
      go_simp
      refine (specReaderNew_any wd).mono ?_
      rintro e wd ⟨rfl, b⟩
      have sz := b.size
      replace X := X.below b
      replace Y := Y.below b
      replace BB := belowThen BB b
      replace hs := Nat.le_trans hs b.size
      try replace L := L.below b
      try replace D := D.below b
      try replace SS := SS.below b
      try replace RR := RR.below b
      clear b
      refine hK.out _ _ (by first | exact ⟨⟨X 0 _ rfl, X 1 _ rfl⟩, (L.2 0 _ rfl).1, (L.2 1 _ rfl).1⟩ | exact hx) (fun hHeld => ?_)
      clear hK K
      try simp only [Act.put, List.setIfInBounds_toArray, List.set_cons_zero, List.set_cons_succ]
      refine wpAnyH_ready (rs := [4, 6]) (by kernel_rfl) (by simp) ?_
      refine AllReadyH.cons (o := { dst := some 20, op := Op.makeSlice 27 (Operand.tmp 19) (Operand.tmp 19), type := 27, pos := "l12_world.go:62", after := #[{ on := 3, ground := Ground.data }, { on := 3, ground := Ground.data }], guard := none }) rfl (fun K hK => ?_) (AllReadyH.cons (o := { dst := some 22, op := Op.call { callee := Callee.value (Operand.func 15), args := #[], argTypes := #[] }, type := 49, pos := "l12_world.go:62", after := #[{ on := 5, ground := Ground.chain }], guard := none }) rfl (fun K hK => ?_) AllReadyH.nil)
      · try have f0 := D.fit
        try have f1 := SS.fit
        try have f2 := RR.fit
        have hlo4 := hs
        refine step_mkW rfl _ _ _ rfl _ _ rfl rfl (makeS ds.length (by omega) wd) ?_
        have SS0 := storesNew wd ds.length (by omega)
        have b : Below wd.heap.size wd (wd.alloc (.cells (madeCells (Value.agg #[.slice none 0 0, .slice none 0 0, .int .i64 0]).cells (ds.length * 3)) 69)) := (Below.refl _ _).alloc (Nat.le_refl _) _
        have es : wd.heap.size + 1 ≤ (wd.alloc (.cells (madeCells (Value.agg #[.slice none 0 0, .slice none 0 0, .int .i64 0]).cells (ds.length * 3)) 69)).heap.size := by simp
        have sz := b.size
        replace X := X.below b
        replace Y := Y.below b
        replace BB := belowThen BB b
        replace hs := Nat.le_trans hs b.size
        try replace L := L.below b
        try replace D := D.below b
        try replace SS := SS.below b
        try replace RR := RR.below b
        clear b
        have SS := SS0
        clear SS0
        generalize wd.heap.size = sb at *
        generalize wd.alloc (.cells (madeCells (Value.agg #[.slice none 0 0, .slice none 0 0, .int .i64 0]).cells (ds.length * 3)) 69) = wd at *
        refine hK.out _ _ (by first | exact ⟨⟨X 0 _ rfl, X 1 _ rfl⟩, (L.2 0 _ rfl).1, (L.2 1 _ rfl).1⟩ | exact hx) (fun hHeld => ?_)
        clear hK K
        try simp only [Act.put, List.setIfInBounds_toArray, List.set_cons_zero, List.set_cons_succ]
        refine wpAnyH_ready (rs := [6]) (by kernel_rfl) (by simp) ?_
        refine AllReadyH.cons (o := { dst := some 22, op := Op.call { callee := Callee.value (Operand.func 15), args := #[], argTypes := #[] }, type := 49, pos := "l12_world.go:62", after := #[{ on := 5, ground := Ground.chain }], guard := none }) rfl (fun K hK => ?_) AllReadyH.nil
        go_simp
        refine (specReaderNew_any wd).mono ?_
        rintro e wd ⟨rfl, b⟩
        have sz := b.size
        replace X := X.below b
        replace Y := Y.below b
        replace BB := belowThen BB b
        replace hs := Nat.le_trans hs b.size
        try replace L := L.below b
        try replace D := D.below b
        try replace SS := SS.below b
        try replace RR := RR.below b
        clear b
        refine hK.out _ _ (by first | exact ⟨⟨X 0 _ rfl, X 1 _ rfl⟩, (L.2 0 _ rfl).1, (L.2 1 _ rfl).1⟩ | exact hx) (fun hHeld => ?_)
        clear hK K
        try simp only [Act.put, List.setIfInBounds_toArray, List.set_cons_zero, List.set_cons_succ]
        refine wpAnyH_ready (rs := [7]) (by kernel_rfl) (by simp) ?_
        refine AllReadyH.cons (o := { dst := some 23, op := Op.buildSlice 33 2 #[(0, Operand.tmp 21), (1, Operand.tmp 22)], type := 33, pos := "l12_world.go:62", after := #[{ on := 5, ground := Ground.data }, { on := 6, ground := Ground.data }], guard := none }) rfl (fun K hK => ?_) AllReadyH.nil
        try have f0 := D.fit
        try have f1 := SS.fit
        try have f2 := RR.fit
        have hlo7 := hs
        go_simp
        have RR0 := readersNew wd
        have b : Below wd.heap.size wd (wd.alloc (.cells #[.int .i64 1, .int .i64 1, .slice none 0 0, .int .i64 1, .int .i64 1, .slice none 0 0] 49)) := (Below.refl _ _).alloc (Nat.le_refl _) _
        have es : wd.heap.size + 1 ≤ (wd.alloc (.cells #[.int .i64 1, .int .i64 1, .slice none 0 0, .int .i64 1, .int .i64 1, .slice none 0 0] 49)).heap.size := by simp
        have sz := b.size
        replace X := X.below b
        replace Y := Y.below b
        replace BB := belowThen BB b
        replace hs := Nat.le_trans hs b.size
        try replace L := L.below b
        try replace D := D.below b
        try replace SS := SS.below b
        try replace RR := RR.below b
        clear b
        have RR := RR0
        clear RR0
        generalize wd.heap.size = rb at *
        generalize wd.alloc (.cells #[.int .i64 1, .int .i64 1, .slice none 0 0, .int .i64 1, .int .i64 1, .slice none 0 0] 49) = wd at *
        refine hK.out _ _ (by first | exact ⟨⟨X 0 _ rfl, X 1 _ rfl⟩, (L.2 0 _ rfl).1, (L.2 1 _ rfl).1⟩ | exact hx) (fun hHeld => ?_)
        clear hK K
        try simp only [Act.put, List.setIfInBounds_toArray, List.set_cons_zero, List.set_cons_succ]
        refine wpAnyH_take (i := 8) (oi := { dst := some 24, op := Op.build 36 #[(0, Operand.tmp 16), (1, Operand.tmp 20), (6, Operand.tmp 23)], type := 36, pos := "l12_world.go:62", after := #[{ on := 0, ground := Ground.data }, { on := 4, ground := Ground.data }, { on := 7, ground := Ground.data }], guard := none }) (v := ?_) rfl (by kernel_rfl) (by kernel_rfl) (by kernel_rfl) (fun _ _ _ h => h) (Or.inl ⟨by rfl, ?_⟩) (by assumption) ?_
        rotate_left 1
        · intro w hSw
          (try dsimp only at hSw)
          first | (go_simp; done) | (go_simp; with_reducible rfl)
        try simp only [Act.put, List.setIfInBounds_toArray, List.set_cons_zero, List.set_cons_succ]
        refine wpAnyH_ready (rs := [9]) (by kernel_rfl) (by simp) ?_
        refine AllReadyH.cons (o := { dst := none, op := Op.store 36 (Operand.tmp 2) (Operand.tmp 24), type := 0, pos := "l12_world.go:62", after := #[{ on := 8, ground := Ground.data }, { on := 6, ground := Ground.chain }, { on := 0, ground := Ground.phase }, { on := 1, ground := Ground.phase }, { on := 2, ground := Ground.phase }, { on := 3, ground := Ground.phase }, { on := 4, ground := Ground.phase }, { on := 5, ground := Ground.phase }, { on := 6, ground := Ground.phase }, { on := 7, ground := Ground.phase }, { on := 8, ground := Ground.phase }], guard := none }) rfl (fun K hK => ?_) AllReadyH.nil
        have f0 := D.fit
        have f1 := SS.fit
        have f2 := RR.fit
        refine step_putW rfl _ _ _ rfl rfl [.slice da ds.length dc, .int .i64 cop, .slice (some ⟨sb, 0, none⟩) ds.length ds.length, .slice none 0 0, .slice none 0 0, .int .i64 0, .slice none 0 0, .slice none 0 0, .slice (some ⟨rb, 0, none⟩) 2 2, .slice none 0 0, .bool false] rfl rfl Y rfl (by kernel_rfl) (by kernel_rfl) ?_
        clear Y
        intro wd Y s g b
        replace D := D.off g (by omega) s
        replace SS := SS.off g (by omega) s
        replace RR := RR.off g (by omega) s
        replace X := X.off g (by omega)
        try replace L := L.off g (by omega)
        replace BB := BB.trans b
        clear g b
        refine hK.out _ _ (by first | exact ⟨⟨X 0 _ rfl, X 1 _ rfl⟩, (L.2 0 _ rfl).1, (L.2 1 _ rfl).1⟩ | exact hx) (fun hHeld => ?_)
        clear hK K
        try simp only [Act.put, List.setIfInBounds_toArray, List.set_cons_zero, List.set_cons_succ]
        refine wpAnyH_take (i := 10) (oi := { dst := some 3, op := Op.assign (Operand.const (Value.bool true)), type := 4, pos := "l12_world.go:62", after := #[{ on := 9, ground := Ground.chain }, { on := 0, ground := Ground.phase }, { on := 1, ground := Ground.phase }, { on := 2, ground := Ground.phase }, { on := 3, ground := Ground.phase }, { on := 4, ground := Ground.phase }, { on := 5, ground := Ground.phase }, { on := 6, ground := Ground.phase }, { on := 7, ground := Ground.phase }, { on := 8, ground := Ground.phase }, { on := 9, ground := Ground.phase }], guard := none }) (v := ?_) rfl (by kernel_rfl) (by kernel_rfl) (by kernel_rfl) (fun _ _ _ h => h) (Or.inl ⟨by rfl, ?_⟩) (by assumption) ?_
        rotate_left 1
        · intro w hSw
          (try dsimp only at hSw)
          first | (go_simp; done) | (go_simp; with_reducible rfl)
        try simp only [Act.put, List.setIfInBounds_toArray, List.set_cons_zero, List.set_cons_succ]
        refine wpAnyH_done (by kernel_rfl) ?_ _
        refine NoPanic.normal ?_
        have k0 := (Y.2 0 _ rfl).1
        have k1 := (Y.2 1 _ rfl).1
        have k2 := (Y.2 2 _ rfl).1
        have k3 := (Y.2 3 _ rfl).1
        have k4 := (Y.2 4 _ rfl).1
        have k5 := (Y.2 5 _ rfl).1
        have k6 := (Y.2 6 _ rfl).1
        have k7 := (Y.2 7 _ rfl).1
        have k8 := (Y.2 8 _ rfl).1
        have k9 := (Y.2 9 _ rfl).1
        have k10 := (Y.2 10 _ rfl).1
        have QQ := owNew (lo := w.heap.size) (hi := wd.heap.size) cop D.now SS.now RR.now ⟨⟨by omega, by omega⟩, ⟨by omega, by omega⟩, ⟨by omega, by omega⟩, by omega⟩ (by omega) (by omega) (by omega)
        clear D SS RR X Y
        go_wp2_with fail
        refine bodyPost_ret (v := .tuple #[.agg #[.slice da ds.length dc, .int .i64 cop, .slice (some ⟨sb, 0, none⟩) ds.length ds.length, .slice none 0 0, .slice none 0 0, .int .i64 0, .slice none 0 0, .slice none 0 0, .slice (some ⟨rb, 0, none⟩) 2 2, .slice none 0 0, .bool false], .bool true]) (by simp [results, Try.results5, go_sem, k0, k1, k2, k3, k4, k5, k6, k7, k8, k9, k10]) rfl ⟨⟨_, rfl, QQ⟩, BB⟩
      · go_simp
        refine (specReaderNew_any wd).mono ?_
        rintro e wd ⟨rfl, b⟩
        have sz := b.size
        replace X := X.below b
        replace Y := Y.below b
        replace BB := belowThen BB b
        replace hs := Nat.le_trans hs b.size
        try replace L := L.below b
        try replace D := D.below b
        try replace SS := SS.below b
        try replace RR := RR.below b
        clear b
        refine hK.out _ _ (by first | exact ⟨⟨X 0 _ rfl, X 1 _ rfl⟩, (L.2 0 _ rfl).1, (L.2 1 _ rfl).1⟩ | exact hx) (fun hHeld => ?_)
        clear hK K
        try simp only [Act.put, List.setIfInBounds_toArray, List.set_cons_zero, List.set_cons_succ]
        refine wpAnyH_ready (rs := [4, 7]) (by kernel_rfl) (by simp) ?_
        refine AllReadyH.cons (o := { dst := some 20, op := Op.makeSlice 27 (Operand.tmp 19) (Operand.tmp 19), type := 27, pos := "l12_world.go:62", after := #[{ on := 3, ground := Ground.data }, { on := 3, ground := Ground.data }], guard := none }) rfl (fun K hK => ?_) (AllReadyH.cons (o := { dst := some 23, op := Op.buildSlice 33 2 #[(0, Operand.tmp 21), (1, Operand.tmp 22)], type := 33, pos := "l12_world.go:62", after := #[{ on := 5, ground := Ground.data }, { on := 6, ground := Ground.data }], guard := none }) rfl (fun K hK => ?_) AllReadyH.nil)
        · try have f0 := D.fit
          try have f1 := SS.fit
          try have f2 := RR.fit
          have hlo4 := hs
          refine step_mkW rfl _ _ _ rfl _ _ rfl rfl (makeS ds.length (by omega) wd) ?_
          have SS0 := storesNew wd ds.length (by omega)
          have b : Below wd.heap.size wd (wd.alloc (.cells (madeCells (Value.agg #[.slice none 0 0, .slice none 0 0, .int .i64 0]).cells (ds.length * 3)) 69)) := (Below.refl _ _).alloc (Nat.le_refl _) _
          have es : wd.heap.size + 1 ≤ (wd.alloc (.cells (madeCells (Value.agg #[.slice none 0 0, .slice none 0 0, .int .i64 0]).cells (ds.length * 3)) 69)).heap.size := by simp
          have sz := b.size
          replace X := X.below b
          replace Y := Y.below b
          replace BB := belowThen BB b
          replace hs := Nat.le_trans hs b.size
          try replace L := L.below b
          try replace D := D.below b
          try replace SS := SS.below b
          try replace RR := RR.below b
          clear b
          have SS := SS0
          clear SS0
          generalize wd.heap.size = sb at *
          generalize wd.alloc (.cells (madeCells (Value.agg #[.slice none 0 0, .slice none 0 0, .int .i64 0]).cells (ds.length * 3)) 69) = wd at *
          refine hK.out _ _ (by first | exact ⟨⟨X 0 _ rfl, X 1 _ rfl⟩, (L.2 0 _ rfl).1, (L.2 1 _ rfl).1⟩ | exact hx) (fun hHeld => ?_)
          clear hK K
          try simp only [Act.put, List.setIfInBounds_toArray, List.set_cons_zero, List.set_cons_succ]
          refine wpAnyH_ready (rs := [7]) (by kernel_rfl) (by simp) ?_
          refine AllReadyH.cons (o := { dst := some 23, op := Op.buildSlice 33 2 #[(0, Operand.tmp 21), (1, Operand.tmp 22)], type := 33, pos := "l12_world.go:62", after := #[{ on := 5, ground := Ground.data }, { on := 6, ground := Ground.data }], guard := none }) rfl (fun K hK => ?_) AllReadyH.nil
          try have f0 := D.fit
          try have f1 := SS.fit
          try have f2 := RR.fit
          have hlo7 := hs
          go_simp
          have RR0 := readersNew wd
          have b : Below wd.heap.size wd (wd.alloc (.cells #[.int .i64 1, .int .i64 1, .slice none 0 0, .int .i64 1, .int .i64 1, .slice none 0 0] 49)) := (Below.refl _ _).alloc (Nat.le_refl _) _
          have es : wd.heap.size + 1 ≤ (wd.alloc (.cells #[.int .i64 1, .int .i64 1, .slice none 0 0, .int .i64 1, .int .i64 1, .slice none 0 0] 49)).heap.size := by simp
          have sz := b.size
          replace X := X.below b
          replace Y := Y.below b
          replace BB := belowThen BB b
          replace hs := Nat.le_trans hs b.size
          try replace L := L.below b
          try replace D := D.below b
          try replace SS := SS.below b
          try replace RR := RR.below b
          clear b
          have RR := RR0
          clear RR0
          generalize wd.heap.size = rb at *
          generalize wd.alloc (.cells #[.int .i64 1, .int .i64 1, .slice none 0 0, .int .i64 1, .int .i64 1, .slice none 0 0] 49) = wd at *
          refine hK.out _ _ (by first | exact ⟨⟨X 0 _ rfl, X 1 _ rfl⟩, (L.2 0 _ rfl).1, (L.2 1 _ rfl).1⟩ | exact hx) (fun hHeld => ?_)
          clear hK K
          try simp only [Act.put, List.setIfInBounds_toArray, List.set_cons_zero, List.set_cons_succ]
          refine wpAnyH_take (i := 8) (oi := { dst := some 24, op := Op.build 36 #[(0, Operand.tmp 16), (1, Operand.tmp 20), (6, Operand.tmp 23)], type := 36, pos := "l12_world.go:62", after := #[{ on := 0, ground := Ground.data }, { on := 4, ground := Ground.data }, { on := 7, ground := Ground.data }], guard := none }) (v := ?_) rfl (by kernel_rfl) (by kernel_rfl) (by kernel_rfl) (fun _ _ _ h => h) (Or.inl ⟨by rfl, ?_⟩) (by assumption) ?_
          rotate_left 1
          · intro w hSw
            (try dsimp only at hSw)
            first | (go_simp; done) | (go_simp; with_reducible rfl)
          try simp only [Act.put, List.setIfInBounds_toArray, List.set_cons_zero, List.set_cons_succ]
          refine wpAnyH_ready (rs := [9]) (by kernel_rfl) (by simp) ?_
          refine AllReadyH.cons (o := { dst := none, op := Op.store 36 (Operand.tmp 2) (Operand.tmp 24), type := 0, pos := "l12_world.go:62", after := #[{ on := 8, ground := Ground.data }, { on := 6, ground := Ground.chain }, { on := 0, ground := Ground.phase }, { on := 1, ground := Ground.phase }, { on := 2, ground := Ground.phase }, { on := 3, ground := Ground.phase }, { on := 4, ground := Ground.phase }, { on := 5, ground := Ground.phase }, { on := 6, ground := Ground.phase }, { on := 7, ground := Ground.phase }, { on := 8, ground := Ground.phase }], guard := none }) rfl (fun K hK => ?_) AllReadyH.nil
          have f0 := D.fit
          have f1 := SS.fit
          have f2 := RR.fit
          refine step_putW rfl _ _ _ rfl rfl [.slice da ds.length dc, .int .i64 cop, .slice (some ⟨sb, 0, none⟩) ds.length ds.length, .slice none 0 0, .slice none 0 0, .int .i64 0, .slice none 0 0, .slice none 0 0, .slice (some ⟨rb, 0, none⟩) 2 2, .slice none 0 0, .bool false] rfl rfl Y rfl (by kernel_rfl) (by kernel_rfl) ?_
          clear Y
          intro wd Y s g b
          replace D := D.off g (by omega) s
          replace SS := SS.off g (by omega) s
          replace RR := RR.off g (by omega) s
          replace X := X.off g (by omega)
          try replace L := L.off g (by omega)
          replace BB := BB.trans b
          clear g b
          refine hK.out _ _ (by first | exact ⟨⟨X 0 _ rfl, X 1 _ rfl⟩, (L.2 0 _ rfl).1, (L.2 1 _ rfl).1⟩ | exact hx) (fun hHeld => ?_)
          clear hK K
          try simp only [Act.put, List.setIfInBounds_toArray, List.set_cons_zero, List.set_cons_succ]
          refine wpAnyH_take (i := 10) (oi := { dst := some 3, op := Op.assign (Operand.const (Value.bool true)), type := 4, pos := "l12_world.go:62", after := #[{ on := 9, ground := Ground.chain }, { on := 0, ground := Ground.phase }, { on := 1, ground := Ground.phase }, { on := 2, ground := Ground.phase }, { on := 3, ground := Ground.phase }, { on := 4, ground := Ground.phase }, { on := 5, ground := Ground.phase }, { on := 6, ground := Ground.phase }, { on := 7, ground := Ground.phase }, { on := 8, ground := Ground.phase }, { on := 9, ground := Ground.phase }], guard := none }) (v := ?_) rfl (by kernel_rfl) (by kernel_rfl) (by kernel_rfl) (fun _ _ _ h => h) (Or.inl ⟨by rfl, ?_⟩) (by assumption) ?_
          rotate_left 1
          · intro w hSw
            (try dsimp only at hSw)
            first | (go_simp; done) | (go_simp; with_reducible rfl)
          try simp only [Act.put, List.setIfInBounds_toArray, List.set_cons_zero, List.set_cons_succ]
          refine wpAnyH_done (by kernel_rfl) ?_ _
          refine NoPanic.normal ?_
          have k0 := (Y.2 0 _ rfl).1
          have k1 := (Y.2 1 _ rfl).1
          have k2 := (Y.2 2 _ rfl).1
          have k3 := (Y.2 3 _ rfl).1
          have k4 := (Y.2 4 _ rfl).1
          have k5 := (Y.2 5 _ rfl).1
          have k6 := (Y.2 6 _ rfl).1
          have k7 := (Y.2 7 _ rfl).1
          have k8 := (Y.2 8 _ rfl).1
          have k9 := (Y.2 9 _ rfl).1
          have k10 := (Y.2 10 _ rfl).1
          have QQ := owNew (lo := w.heap.size) (hi := wd.heap.size) cop D.now SS.now RR.now ⟨⟨by omega, by omega⟩, ⟨by omega, by omega⟩, ⟨by omega, by omega⟩, by omega⟩ (by omega) (by omega) (by omega)
          clear D SS RR X Y
          go_wp2_with fail
          refine bodyPost_ret (v := .tuple #[.agg #[.slice da ds.length dc, .int .i64 cop, .slice (some ⟨sb, 0, none⟩) ds.length ds.length, .slice none 0 0, .slice none 0 0, .int .i64 0, .slice none 0 0, .slice none 0 0, .slice (some ⟨rb, 0, none⟩) 2 2, .slice none 0 0, .bool false], .bool true]) (by simp [results, Try.results5, go_sem, k0, k1, k2, k3, k4, k5, k6, k7, k8, k9, k10]) rfl ⟨⟨_, rfl, QQ⟩, BB⟩
        · try have f0 := D.fit
          try have f1 := SS.fit
          try have f2 := RR.fit
          have hlo7 := hs
          go_simp
          have RR0 := readersNew wd
          have b : Below wd.heap.size wd (wd.alloc (.cells #[.int .i64 1, .int .i64 1, .slice none 0 0, .int .i64 1, .int .i64 1, .slice none 0 0] 49)) := (Below.refl _ _).alloc (Nat.le_refl _) _
          have es : wd.heap.size + 1 ≤ (wd.alloc (.cells #[.int .i64 1, .int .i64 1, .slice none 0 0, .int .i64 1, .int .i64 1, .slice none 0 0] 49)).heap.size := by simp
          have sz := b.size
          replace X := X.below b
          replace Y := Y.below b
          replace BB := belowThen BB b
          replace hs := Nat.le_trans hs b.size
          try replace L := L.below b
          try replace D := D.below b
          try replace SS := SS.below b
          try replace RR := RR.below b
          clear b
          have RR := RR0
          clear RR0
          generalize wd.heap.size = rb at *
          generalize wd.alloc (.cells #[.int .i64 1, .int .i64 1, .slice none 0 0, .int .i64 1, .int .i64 1, .slice none 0 0] 49) = wd at *
          refine hK.out _ _ (by first | exact ⟨⟨X 0 _ rfl, X 1 _ rfl⟩, (L.2 0 _ rfl).1, (L.2 1 _ rfl).1⟩ | exact hx) (fun hHeld => ?_)
          clear hK K
          try simp only [Act.put, List.setIfInBounds_toArray, List.set_cons_zero, List.set_cons_succ]
          refine wpAnyH_ready (rs := [4]) (by kernel_rfl) (by simp) ?_
          refine AllReadyH.cons (o := { dst := some 20, op := Op.makeSlice 27 (Operand.tmp 19) (Operand.tmp 19), type := 27, pos := "l12_world.go:62", after := #[{ on := 3, ground := Ground.data }, { on := 3, ground := Ground.data }], guard := none }) rfl (fun K hK => ?_) AllReadyH.nil
          try have f0 := D.fit
          try have f1 := SS.fit
          try have f2 := RR.fit
          have hlo4 := hs
          refine step_mkW rfl _ _ _ rfl _ _ rfl rfl (makeS ds.length (by omega) wd) ?_
          have SS0 := storesNew wd ds.length (by omega)
          have b : Below wd.heap.size wd (wd.alloc (.cells (madeCells (Value.agg #[.slice none 0 0, .slice none 0 0, .int .i64 0]).cells (ds.length * 3)) 69)) := (Below.refl _ _).alloc (Nat.le_refl _) _
          have es : wd.heap.size + 1 ≤ (wd.alloc (.cells (madeCells (Value.agg #[.slice none 0 0, .slice none 0 0, .int .i64 0]).cells (ds.length * 3)) 69)).heap.size := by simp
          have sz := b.size
          replace X := X.below b
          replace Y := Y.below b
          replace BB := belowThen BB b
          replace hs := Nat.le_trans hs b.size
          try replace L := L.below b
          try replace D := D.below b
          try replace SS := SS.below b
          try replace RR := RR.below b
          clear b
          have SS := SS0
          clear SS0
          generalize wd.heap.size = sb at *
          generalize wd.alloc (.cells (madeCells (Value.agg #[.slice none 0 0, .slice none 0 0, .int .i64 0]).cells (ds.length * 3)) 69) = wd at *
          refine hK.out _ _ (by first | exact ⟨⟨X 0 _ rfl, X 1 _ rfl⟩, (L.2 0 _ rfl).1, (L.2 1 _ rfl).1⟩ | exact hx) (fun hHeld => ?_)
          clear hK K
          try simp only [Act.put, List.setIfInBounds_toArray, List.set_cons_zero, List.set_cons_succ]
          refine wpAnyH_take (i := 8) (oi := { dst := some 24, op := Op.build 36 #[(0, Operand.tmp 16), (1, Operand.tmp 20), (6, Operand.tmp 23)], type := 36, pos := "l12_world.go:62", after := #[{ on := 0, ground := Ground.data }, { on := 4, ground := Ground.data }, { on := 7, ground := Ground.data }], guard := none }) (v := ?_) rfl (by kernel_rfl) (by kernel_rfl) (by kernel_rfl) (fun _ _ _ h => h) (Or.inl ⟨by rfl, ?_⟩) (by assumption) ?_
          rotate_left 1
          · intro w hSw
            (try dsimp only at hSw)
            first | (go_simp; done) | (go_simp; with_reducible rfl)
          try simp only [Act.put, List.setIfInBounds_toArray, List.set_cons_zero, List.set_cons_succ]
          refine wpAnyH_ready (rs := [9]) (by kernel_rfl) (by simp) ?_
          refine AllReadyH.cons (o := { dst := none, op := Op.store 36 (Operand.tmp 2) (Operand.tmp 24), type := 0, pos := "l12_world.go:62", after := #[{ on := 8, ground := Ground.data }, { on := 6, ground := Ground.chain }, { on := 0, ground := Ground.phase }, { on := 1, ground := Ground.phase }, { on := 2, ground := Ground.phase }, { on := 3, ground := Ground.phase }, { on := 4, ground := Ground.phase }, { on := 5, ground := Ground.phase }, { on := 6, ground := Ground.phase }, { on := 7, ground := Ground.phase }, { on := 8, ground := Ground.phase }], guard := none }) rfl (fun K hK => ?_) AllReadyH.nil
          have f0 := D.fit
          have f1 := SS.fit
          have f2 := RR.fit
          refine step_putW rfl _ _ _ rfl rfl [.slice da ds.length dc, .int .i64 cop, .slice (some ⟨sb, 0, none⟩) ds.length ds.length, .slice none 0 0, .slice none 0 0, .int .i64 0, .slice none 0 0, .slice none 0 0, .slice (some ⟨rb, 0, none⟩) 2 2, .slice none 0 0, .bool false] rfl rfl Y rfl (by kernel_rfl) (by kernel_rfl) ?_
          clear Y
          intro wd Y s g b
          replace D := D.off g (by omega) s
          replace SS := SS.off g (by omega) s
          replace RR := RR.off g (by omega) s
          replace X := X.off g (by omega)
          try replace L := L.off g (by omega)
          replace BB := BB.trans b
          clear g b
          refine hK.out _ _ (by first | exact ⟨⟨X 0 _ rfl, X 1 _ rfl⟩, (L.2 0 _ rfl).1, (L.2 1 _ rfl).1⟩ | exact hx) (fun hHeld => ?_)
          clear hK K
          try simp only [Act.put, List.setIfInBounds_toArray, List.set_cons_zero, List.set_cons_succ]
          refine wpAnyH_take (i := 10) (oi := { dst := some 3, op := Op.assign (Operand.const (Value.bool true)), type := 4, pos := "l12_world.go:62", after := #[{ on := 9, ground := Ground.chain }, { on := 0, ground := Ground.phase }, { on := 1, ground := Ground.phase }, { on := 2, ground := Ground.phase }, { on := 3, ground := Ground.phase }, { on := 4, ground := Ground.phase }, { on := 5, ground := Ground.phase }, { on := 6, ground := Ground.phase }, { on := 7, ground := Ground.phase }, { on := 8, ground := Ground.phase }, { on := 9, ground := Ground.phase }], guard := none }) (v := ?_) rfl (by kernel_rfl) (by kernel_rfl) (by kernel_rfl) (fun _ _ _ h => h) (Or.inl ⟨by rfl, ?_⟩) (by assumption) ?_
          rotate_left 1
          · intro w hSw
            (try dsimp only at hSw)
            first | (go_simp; done) | (go_simp; with_reducible rfl)
          try simp only [Act.put, List.setIfInBounds_toArray, List.set_cons_zero, List.set_cons_succ]
          refine wpAnyH_done (by kernel_rfl) ?_ _
          refine NoPanic.normal ?_
          have k0 := (Y.2 0 _ rfl).1
          have k1 := (Y.2 1 _ rfl).1
          have k2 := (Y.2 2 _ rfl).1
          have k3 := (Y.2 3 _ rfl).1
          have k4 := (Y.2 4 _ rfl).1
          have k5 := (Y.2 5 _ rfl).1
          have k6 := (Y.2 6 _ rfl).1
          have k7 := (Y.2 7 _ rfl).1
          have k8 := (Y.2 8 _ rfl).1
          have k9 := (Y.2 9 _ rfl).1
          have k10 := (Y.2 10 _ rfl).1
          have QQ := owNew (lo := w.heap.size) (hi := wd.heap.size) cop D.now SS.now RR.now ⟨⟨by omega, by omega⟩, ⟨by omega, by omega⟩, ⟨by omega, by omega⟩, by omega⟩ (by omega) (by omega) (by omega)
          clear D SS RR X Y
          go_wp2_with fail
          refine bodyPost_ret (v := .tuple #[.agg #[.slice da ds.length dc, .int .i64 cop, .slice (some ⟨sb, 0, none⟩) ds.length ds.length, .slice none 0 0, .slice none 0 0, .int .i64 0, .slice none 0 0, .slice none 0 0, .slice (some ⟨rb, 0, none⟩) 2 2, .slice none 0 0, .bool false], .bool true]) (by simp [results, Try.results5, go_sem, k0, k1, k2, k3, k4, k5, k6, k7, k8, k9, k10]) rfl ⟨⟨_, rfl, QQ⟩, BB⟩
set_option maxHeartbeats 8000000 in
theorem implWorldNew_yes (sv : Value) (ds : List Int) (cop : Int) (w : World) (hv : Ns w sv ds) (ha : allInt ds) (hl : ds.length ≤ 1048576) (c0 : -9223372036854775808 ≤ cop) (c1 : cop ≤ 9223372036854775807) (h : cfgP ds cop) :
    Calls Try.prog 7 #[.agg #[sv, .int .i64 cop]] w fun e w' => (∃ u, e = .returned (.tuple #[u, .bool true]) ∧ OwWorld w.heap.size w'.heap.size u (newW ds cop) w') ∧ Below w.heap.size w w' := by
  have hb0 : ∀ o o2, Below w.heap.size w ((w.alloc o).alloc o2) := fun o o2 => ((Below.refl _ _).alloc (Nat.le_refl _) o).alloc (by simp) o2
  have C1 := dHide fun W (hb : Below w.heap.size w W) => implCfg_any _ ds cop W (hv.below hb) ha hl c0 c1
  have HV := dHide fun W (hb : Below w.heap.size w W) => hv.below hb
  obtain ⟨-, a, cap, rfl, -, -⟩ := hv
  have hn : Hid (1 ≤ ds.length ∧ ds.length ≤ 8) := h.1
  have X0 := Bx.new w [.slice a ds.length cap, .int .i64 cop] 26
  have Y0 := BxZ.new (w.alloc (.cells #[.slice a ds.length cap, .int .i64 cop] 26)) [.slice none 0 0, .int .i64 0, .slice none 0 0, .slice none 0 0, .slice none 0 0, .int .i64 0, .slice none 0 0, .slice none 0 0, .slice none 0 0, .slice none 0 0, .bool false] 36 (B := w.heap.size) (by simp)
  go_enter Try.func7, Try.ntmps7
  go_wp2_with fail
  refine (dUnhide C1 _ (hb0 _ _)).mono ?_
  rintro e w1 ⟨q1, b1⟩
  obtain rfl := q1.of_yes h
  have B1 := dHide (belowThen (hb0 _ _) b1)
  have X1 := ((X0.below ((Below.refl _ _).alloc (Nat.le_refl _) (.cells #[.slice none 0 0, .int .i64 0, .slice none 0 0, .slice none 0 0, .slice none 0 0, .int .i64 0, .slice none 0 0, .slice none 0 0, .slice none 0 0, .slice none 0 0, .bool false] 36)))).below b1
  have Y1 := Y0.below b1
  have hw1 : w.heap.size + 2 ≤ w1.heap.size := by have := b1.size; simp at this; omega
  have es : (w.alloc (.cells #[.slice a ds.length cap, .int .i64 cop] 26)).heap.size = w.heap.size + 1 := by simp
  rw [es] at Y1
  clear b1 hb0 C1 q1 X0 Y0 es
  have bdr : Below w1.heap.size w1 w1.drew := (Below.refl _ _).drew
  have hx : w1.cell? ⟨w.heap.size, 0, none⟩ = some (.slice a ds.length cap) ∧ w1.cell? ⟨w.heap.size, 1, none⟩ = some (.int .i64 cop) := ⟨X1 0 _ rfl, X1 1 _ rfl⟩
  have X := X1.below bdr
  have Y := Y1.below bdr
  have BB := belowThen (dUnhide B1) bdr
  have hs : w.heap.size + 2 ≤ w1.drew.heap.size := Nat.le_trans hw1 bdr.size
  clear X1 Y1 B1
  go_wp2_with fail
  refine wp_region_noPanic ?_
  refine wp_region_held_drew (S := fun W => W.cell? ⟨w.heap.size, 0, none⟩ = some (.slice a ds.length cap) ∧ W.cell? ⟨w.heap.size, 1, none⟩ = some (.int .i64 cop)) (by kernel_rfl) (by first | exact ⟨X 0 _ rfl, X 1 _ rfl⟩ | exact hx) (fun hHeld => ?_)
  refine wpAnyH_take (i := 0) (oi := { dst := some 8, op := Op.fieldAddr 26 (Operand.tmp 1) 0, type := 0, pos := "l12_world.go:130", after := #[], guard := none }) (v := ?_) rfl (by kernel_rfl) (by kernel_rfl) (by kernel_rfl) (fun _ _ _ h => h) (Or.inl ⟨by rfl, ?_⟩) (by assumption) ?_
  rotate_left 1
  · intro w hSw
    (try dsimp only at hSw)
    first | (go_simp; done) | (go_simp; with_reducible rfl)
  try simp only [Act.put, List.setIfInBounds_toArray, List.set_cons_zero, List.set_cons_succ]
  refine wpAnyH_take (i := 1) (oi := { dst := some 9, op := Op.load 22 (Operand.tmp 8), type := 22, pos := "l12_world.go:130", after := #[{ on := 0, ground := Ground.data }], guard := none }) (v := ?_) rfl (by kernel_rfl) (by kernel_rfl) (by kernel_rfl) (fun _ _ _ h => h) (Or.inl ⟨by rfl, ?_⟩) (by assumption) ?_
  rotate_left 1
  · intro w hSw
    (try dsimp only at hSw)
    first | (go_simp; done) | (go_simp; with_reducible rfl)
  try simp only [Act.put, List.setIfInBounds_toArray, List.set_cons_zero, List.set_cons_succ]
  refine wpAnyH_take (i := 3) (oi := { dst := some 11, op := Op.fieldAddr 26 (Operand.tmp 1) 1, type := 0, pos := "l12_world.go:130", after := #[], guard := none }) (v := ?_) rfl (by kernel_rfl) (by kernel_rfl) (by kernel_rfl) (fun _ _ _ h => h) (Or.inl ⟨by rfl, ?_⟩) (by assumption) ?_
  rotate_left 1
  · intro w hSw
    (try dsimp only at hSw)
    first | (go_simp; done) | (go_simp; with_reducible rfl)
  try simp only [Act.put, List.setIfInBounds_toArray, List.set_cons_zero, List.set_cons_succ]
  refine wpAnyH_take (i := 4) (oi := { dst := some 12, op := Op.load 3 (Operand.tmp 11), type := 3, pos := "l12_world.go:130", after := #[{ on := 3, ground := Ground.data }], guard := none }) (v := ?_) rfl (by kernel_rfl) (by kernel_rfl) (by kernel_rfl) (fun _ _ _ h => h) (Or.inl ⟨by rfl, ?_⟩) (by assumption) ?_
  rotate_left 1
  · intro w hSw
    (try dsimp only at hSw)
    first | (go_simp; done) | (go_simp; with_reducible rfl)
  try simp only [Act.put, List.setIfInBounds_toArray, List.set_cons_zero, List.set_cons_succ]
  refine wpAnyH_take (i := 6) (oi := { dst := some 14, op := Op.fieldAddr 26 (Operand.tmp 1) 0, type := 0, pos := "l12_world.go:130", after := #[], guard := none }) (v := ?_) rfl (by kernel_rfl) (by kernel_rfl) (by kernel_rfl) (fun _ _ _ h => h) (Or.inl ⟨by rfl, ?_⟩) (by assumption) ?_
  rotate_left 1
  · intro w hSw
    (try dsimp only at hSw)
    first | (go_simp; done) | (go_simp; with_reducible rfl)
  try simp only [Act.put, List.setIfInBounds_toArray, List.set_cons_zero, List.set_cons_succ]
  refine wpAnyH_take (i := 7) (oi := { dst := some 15, op := Op.load 22 (Operand.tmp 14), type := 22, pos := "l12_world.go:130", after := #[{ on := 6, ground := Ground.data }], guard := none }) (v := ?_) rfl (by kernel_rfl) (by kernel_rfl) (by kernel_rfl) (fun _ _ _ h => h) (Or.inl ⟨by rfl, ?_⟩) (by assumption) ?_
  rotate_left 1
  · intro w hSw
    (try dsimp only at hSw)
    first | (go_simp; done) | (go_simp; with_reducible rfl)
  try simp only [Act.put, List.setIfInBounds_toArray, List.set_cons_zero, List.set_cons_succ]
  refine wpAnyH_take (i := 8) (oi := { dst := some 16, op := Op.call { callee := Callee.builtin Builtin.len, args := #[Operand.tmp 15], argTypes := #[22] }, type := 3, pos := "l12_world.go:130", after := #[{ on := 7, ground := Ground.data }], guard := none }) (v := ?_) rfl (by kernel_rfl) (by kernel_rfl) (by kernel_rfl) (fun _ _ _ h => h) (Or.inl ⟨by rfl, ?_⟩) (by assumption) ?_
  rotate_left 1
  · intro w hSw
    (try dsimp only at hSw)
    first | (go_simp; done) | (go_simp; with_reducible rfl)
  try simp only [Act.put, List.setIfInBounds_toArray, List.set_cons_zero, List.set_cons_succ]
  refine wpAnyH_ready (rs := [2, 9]) (by kernel_rfl) (by simp) ?_
  refine AllReadyH.cons (o := { dst := some 10, op := Op.call { callee := Callee.value (Operand.func 18), args := #[Operand.tmp 9], argTypes := #[22] }, type := 22, pos := "l12_world.go:131", after := #[{ on := 1, ground := Ground.data }], guard := none }) rfl (fun K hK => ?_) (AllReadyH.cons (o := { dst := some 17, op := Op.makeSlice 27 (Operand.tmp 16) (Operand.tmp 16), type := 27, pos := "l12_world.go:130", after := #[{ on := 8, ground := Ground.data }, { on := 8, ground := Ground.data }], guard := none }) rfl (fun K hK => ?_) AllReadyH.nil)
  · clear hx bdr hw1
    generalize w1.drew = wd at *
    try have f0 := D.fit
    try have f1 := SS.fit
    try have f2 := RR.fit
    have hlo2 := hs
    go_simp
    refine (cloneI_any _ ds wd (dUnhide HV _ BB) (by omega)).mono ?_
    rintro e wd ⟨⟨dv, rfl, O'⟩, b⟩
    have O := O'.own
    clear O'
    obtain ⟨-, da, dc, rfl, -, -⟩ := O.bs
    have sz := b.size
    replace X := X.below b
    replace Y := Y.below b
    replace BB := belowThen BB b
    replace hs := Nat.le_trans hs b.size
    try replace L := L.below b
    try replace D := D.below b
    try replace SS := SS.below b
    try replace RR := RR.below b
    clear b
    have D := OwN.sits ⟨O, O.bs.lt⟩ (Nat.le_refl _)
    clear O
    refine hK.out _ _ (by first | exact ⟨X 0 _ rfl, X 1 _ rfl⟩ | exact hx) (fun hHeld => ?_)
    clear hK K
    try simp only [Act.put, List.setIfInBounds_toArray, List.set_cons_zero, List.set_cons_succ]
    refine wpAnyH_take (i := 5) (oi := { dst := some 13, op := Op.build 26 #[(0, Operand.tmp 10), (1, Operand.tmp 12)], type := 26, pos := "l12_world.go:130", after := #[{ on := 2, ground := Ground.data }, { on := 4, ground := Ground.data }], guard := none }) (v := ?_) rfl (by kernel_rfl) (by kernel_rfl) (by kernel_rfl) (fun _ _ _ h => h) (Or.inl ⟨by rfl, ?_⟩) (by assumption) ?_
    rotate_left 1
    · intro w hSw
      (try dsimp only at hSw)
      first | (go_simp; done) | (go_simp; with_reducible rfl)
    try simp only [Act.put, List.setIfInBounds_toArray, List.set_cons_zero, List.set_cons_succ]
    refine wpAnyH_ready (rs := [9, 10]) (by kernel_rfl) (by simp) ?_
    refine AllReadyH.cons (o := { dst := some 17, op := Op.makeSlice 27 (Operand.tmp 16) (Operand.tmp 16), type := 27, pos := "l12_world.go:130", after := #[{ on := 8, ground := Ground.data }, { on := 8, ground := Ground.data }], guard := none }) rfl (fun K hK => ?_) (AllReadyH.cons (o := { dst := some 18, op := Op.call { callee := Callee.value (Operand.func 19), args := #[], argTypes := #[] }, type := 49, pos := "l12_world.go:133", after := #[{ on := 2, ground := Ground.chain }], guard := none }) rfl (fun K hK => ?_) AllReadyH.nil)
    · try have f0 := D.fit
      try have f1 := SS.fit
      try have f2 := RR.fit
      have hlo4 := hs
      refine step_mkW rfl _ _ _ rfl _ _ rfl rfl (makeS ds.length (by omega) wd) ?_
      have SS0 := storesNew wd ds.length (by omega)
      have b : Below wd.heap.size wd (wd.alloc (.cells (madeCells (Value.agg #[.slice none 0 0, .slice none 0 0, .int .i64 0]).cells (ds.length * 3)) 69)) := (Below.refl _ _).alloc (Nat.le_refl _) _
      have es : wd.heap.size + 1 ≤ (wd.alloc (.cells (madeCells (Value.agg #[.slice none 0 0, .slice none 0 0, .int .i64 0]).cells (ds.length * 3)) 69)).heap.size := by simp
      have sz := b.size
      replace X := X.below b
      replace Y := Y.below b
      replace BB := belowThen BB b
      replace hs := Nat.le_trans hs b.size
      try replace L := L.below b
      try replace D := D.below b
      try replace SS := SS.below b
      try replace RR := RR.below b
      clear b
      have SS := SS0
      clear SS0
      generalize wd.heap.size = sb at *
      generalize wd.alloc (.cells (madeCells (Value.agg #[.slice none 0 0, .slice none 0 0, .int .i64 0]).cells (ds.length * 3)) 69) = wd at *
      refine hK.out _ _ (by first | exact ⟨X 0 _ rfl, X 1 _ rfl⟩ | exact hx) (fun hHeld => ?_)
      clear hK K
      try simp only [Act.put, List.setIfInBounds_toArray, List.set_cons_zero, List.set_cons_succ]
      refine wpAnyH_ready (rs := [10]) (by kernel_rfl) (by simp) ?_
      refine AllReadyH.cons (o := { dst := some 18, op := Op.call { callee := Callee.value (Operand.func 19), args := #[], argTypes := #[] }, type := 49, pos := "l12_world.go:133", after := #[{ on := 2, ground := Ground.chain }], guard := none }) rfl (fun K hK => ?_) AllReadyH.nil
      go_simp
      refine (implReaderNew_any wd).mono ?_
      rintro e wd ⟨rfl, b⟩
      have sz := b.size
      replace X := X.below b
      replace Y := Y.below b
      replace BB := belowThen BB b
      replace hs := Nat.le_trans hs b.size
      try replace L := L.below b
      try replace D := D.below b
      try replace SS := SS.below b
      try replace RR := RR.below b
      clear b
      refine hK.out _ _ (by first | exact ⟨X 0 _ rfl, X 1 _ rfl⟩ | exact hx) (fun hHeld => ?_)
      clear hK K
      try simp only [Act.put, List.setIfInBounds_toArray, List.set_cons_zero, List.set_cons_succ]
      refine wpAnyH_ready (rs := [11]) (by kernel_rfl) (by simp) ?_
      refine AllReadyH.cons (o := { dst := some 19, op := Op.call { callee := Callee.value (Operand.func 19), args := #[], argTypes := #[] }, type := 49, pos := "l12_world.go:133", after := #[{ on := 10, ground := Ground.chain }], guard := none }) rfl (fun K hK => ?_) AllReadyH.nil
      go_simp
      refine (implReaderNew_any wd).mono ?_
      rintro e wd ⟨rfl, b⟩
      have sz := b.size
      replace X := X.below b
      replace Y := Y.below b
      replace BB := belowThen BB b
      replace hs := Nat.le_trans hs b.size
      try replace L := L.below b
      try replace D := D.below b
      try replace SS := SS.below b
      try replace RR := RR.below b
      clear b
      refine hK.out _ _ (by first | exact ⟨X 0 _ rfl, X 1 _ rfl⟩ | exact hx) (fun hHeld => ?_)
      clear hK K
      try simp only [Act.put, List.setIfInBounds_toArray, List.set_cons_zero, List.set_cons_succ]
      refine wpAnyH_ready (rs := [12]) (by kernel_rfl) (by simp) ?_
      refine AllReadyH.cons (o := { dst := some 20, op := Op.buildSlice 33 2 #[(0, Operand.tmp 18), (1, Operand.tmp 19)], type := 33, pos := "l12_world.go:130", after := #[{ on := 10, ground := Ground.data }, { on := 11, ground := Ground.data }], guard := none }) rfl (fun K hK => ?_) AllReadyH.nil
      try have f0 := D.fit
      try have f1 := SS.fit
      try have f2 := RR.fit
      have hlo7 := hs
      go_simp
      have RR0 := readersNew wd
      have b : Below wd.heap.size wd (wd.alloc (.cells #[.int .i64 1, .int .i64 1, .slice none 0 0, .int .i64 1, .int .i64 1, .slice none 0 0] 49)) := (Below.refl _ _).alloc (Nat.le_refl _) _
      have es : wd.heap.size + 1 ≤ (wd.alloc (.cells #[.int .i64 1, .int .i64 1, .slice none 0 0, .int .i64 1, .int .i64 1, .slice none 0 0] 49)).heap.size := by simp
      have sz := b.size
      replace X := X.below b
      replace Y := Y.below b
      replace BB := belowThen BB b
      replace hs := Nat.le_trans hs b.size
      try replace L := L.below b
      try replace D := D.below b
      try replace SS := SS.below b
      try replace RR := RR.below b
      clear b
      have RR := RR0
      clear RR0
      generalize wd.heap.size = rb at *
      generalize wd.alloc (.cells #[.int .i64 1, .int .i64 1, .slice none 0 0, .int .i64 1, .int .i64 1, .slice none 0 0] 49) = wd at *
      refine hK.out _ _ (by first | exact ⟨X 0 _ rfl, X 1 _ rfl⟩ | exact hx) (fun hHeld => ?_)
      clear hK K
      try simp only [Act.put, List.setIfInBounds_toArray, List.set_cons_zero, List.set_cons_succ]
      refine wpAnyH_take (i := 13) (oi := { dst := some 21, op := Op.build 36 #[(0, Operand.tmp 13), (1, Operand.tmp 17), (6, Operand.tmp 20)], type := 36, pos := "l12_world.go:130", after := #[{ on := 5, ground := Ground.data }, { on := 9, ground := Ground.data }, { on := 12, ground := Ground.data }], guard := none }) (v := ?_) rfl (by kernel_rfl) (by kernel_rfl) (by kernel_rfl) (fun _ _ _ h => h) (Or.inl ⟨by rfl, ?_⟩) (by assumption) ?_
      rotate_left 1
      · intro w hSw
        (try dsimp only at hSw)
        first | (go_simp; done) | (go_simp; with_reducible rfl)
      try simp only [Act.put, List.setIfInBounds_toArray, List.set_cons_zero, List.set_cons_succ]
      refine wpAnyH_ready (rs := [14]) (by kernel_rfl) (by simp) ?_
      refine AllReadyH.cons (o := { dst := none, op := Op.store 36 (Operand.tmp 2) (Operand.tmp 21), type := 0, pos := "l12_world.go:130", after := #[{ on := 13, ground := Ground.data }, { on := 11, ground := Ground.chain }, { on := 0, ground := Ground.phase }, { on := 1, ground := Ground.phase }, { on := 2, ground := Ground.phase }, { on := 3, ground := Ground.phase }, { on := 4, ground := Ground.phase }, { on := 5, ground := Ground.phase }, { on := 6, ground := Ground.phase }, { on := 7, ground := Ground.phase }, { on := 8, ground := Ground.phase }, { on := 9, ground := Ground.phase }, { on := 10, ground := Ground.phase }, { on := 11, ground := Ground.phase }, { on := 12, ground := Ground.phase }, { on := 13, ground := Ground.phase }], guard := none }) rfl (fun K hK => ?_) AllReadyH.nil
      have f0 := D.fit
      have f1 := SS.fit
      have f2 := RR.fit
      refine step_putW rfl _ _ _ rfl rfl [.slice da ds.length dc, .int .i64 cop, .slice (some ⟨sb, 0, none⟩) ds.length ds.length, .slice none 0 0, .slice none 0 0, .int .i64 0, .slice none 0 0, .slice none 0 0, .slice (some ⟨rb, 0, none⟩) 2 2, .slice none 0 0, .bool false] rfl rfl Y rfl (by kernel_rfl) (by kernel_rfl) ?_
      clear Y
      intro wd Y s g b
      replace D := D.off g (by omega) s
      replace SS := SS.off g (by omega) s
      replace RR := RR.off g (by omega) s
      replace X := X.off g (by omega)
      try replace L := L.off g (by omega)
      replace BB := BB.trans b
      clear g b
      refine hK.out _ _ (by first | exact ⟨X 0 _ rfl, X 1 _ rfl⟩ | exact hx) (fun hHeld => ?_)
      clear hK K
      try simp only [Act.put, List.setIfInBounds_toArray, List.set_cons_zero, List.set_cons_succ]
      refine wpAnyH_take (i := 15) (oi := { dst := some 3, op := Op.assign (Operand.const (Value.bool true)), type := 4, pos := "l12_world.go:130", after := #[{ on := 14, ground := Ground.chain }, { on := 0, ground := Ground.phase }, { on := 1, ground := Ground.phase }, { on := 2, ground := Ground.phase }, { on := 3, ground := Ground.phase }, { on := 4, ground := Ground.phase }, { on := 5, ground := Ground.phase }, { on := 6, ground := Ground.phase }, { on := 7, ground := Ground.phase }, { on := 8, ground := Ground.phase }, { on := 9, ground := Ground.phase }, { on := 10, ground := Ground.phase }, { on := 11, ground := Ground.phase }, { on := 12, ground := Ground.phase }, { on := 13, ground := Ground.phase }, { on := 14, ground := Ground.phase }], guard := none }) (v := ?_) rfl (by kernel_rfl) (by kernel_rfl) (by kernel_rfl) (fun _ _ _ h => h) (Or.inl ⟨by rfl, ?_⟩) (by assumption) ?_
      rotate_left 1
      · intro w hSw
        (try dsimp only at hSw)
        first | (go_simp; done) | (go_simp; with_reducible rfl)
      try simp only [Act.put, List.setIfInBounds_toArray, List.set_cons_zero, List.set_cons_succ]
      refine wpAnyH_done (by kernel_rfl) ?_ _
      refine NoPanic.normal ?_
      have k0 := (Y.2 0 _ rfl).1
      have k1 := (Y.2 1 _ rfl).1
      have k2 := (Y.2 2 _ rfl).1
      have k3 := (Y.2 3 _ rfl).1
      have k4 := (Y.2 4 _ rfl).1
      have k5 := (Y.2 5 _ rfl).1
      have k6 := (Y.2 6 _ rfl).1
      have k7 := (Y.2 7 _ rfl).1
      have k8 := (Y.2 8 _ rfl).1
      have k9 := (Y.2 9 _ rfl).1
      have k10 := (Y.2 10 _ rfl).1
      have QQ := owNew (lo := w.heap.size) (hi := wd.heap.size) cop D.now SS.now RR.now ⟨⟨by omega, by omega⟩, ⟨by omega, by omega⟩, ⟨by omega, by omega⟩, by omega⟩ (by omega) (by omega) (by omega)
      clear D SS RR X Y
      go_wp2_with fail
      refine bodyPost_ret (v := .tuple #[.agg #[.slice da ds.length dc, .int .i64 cop, .slice (some ⟨sb, 0, none⟩) ds.length ds.length, .slice none 0 0, .slice none 0 0, .int .i64 0, .slice none 0 0, .slice none 0 0, .slice (some ⟨rb, 0, none⟩) 2 2, .slice none 0 0, .bool false], .bool true]) (by simp [results, Try.results7, go_sem, k0, k1, k2, k3, k4, k5, k6, k7, k8, k9, k10]) rfl ⟨⟨_, rfl, QQ⟩, BB⟩
    · go_simp
      refine (implReaderNew_any wd).mono ?_
      rintro e wd ⟨rfl, b⟩
      have sz := b.size
      replace X := X.below b
      replace Y := Y.below b
      replace BB := belowThen BB b
      replace hs := Nat.le_trans hs b.size
      try replace L := L.below b
      try replace D := D.below b
      try replace SS := SS.below b
      try replace RR := RR.below b
      clear b
      refine hK.out _ _ (by first | exact ⟨X 0 _ rfl, X 1 _ rfl⟩ | exact hx) (fun hHeld => ?_)
      clear hK K
      try simp only [Act.put, List.setIfInBounds_toArray, List.set_cons_zero, List.set_cons_succ]
      refine wpAnyH_ready (rs := [9, 11]) (by kernel_rfl) (by simp) ?_
      refine AllReadyH.cons (o := { dst := some 17, op := Op.makeSlice 27 (Operand.tmp 16) (Operand.tmp 16), type := 27, pos := "l12_world.go:130", after := #[{ on := 8, ground := Ground.data }, { on := 8, ground := Ground.data }], guard := none }) rfl (fun K hK => ?_) (AllReadyH.cons (o := { dst := some 19, op := Op.call { callee := Callee.value (Operand.func 19), args := #[], argTypes := #[] }, type := 49, pos := "l12_world.go:133", after := #[{ on := 10, ground := Ground.chain }], guard := none }) rfl (fun K hK => ?_) AllReadyH.nil)
      · try have f0 := D.fit
        try have f1 := SS.fit
        try have f2 := RR.fit
        have hlo4 := hs
        refine step_mkW rfl _ _ _ rfl _ _ rfl rfl (makeS ds.length (by omega) wd) ?_
        have SS0 := storesNew wd ds.length (by omega)
        have b : Below wd.heap.size wd (wd.alloc (.cells (madeCells (Value.agg #[.slice none 0 0, .slice none 0 0, .int .i64 0]).cells (ds.length * 3)) 69)) := (Below.refl _ _).alloc (Nat.le_refl _) _
        have es : wd.heap.size + 1 ≤ (wd.alloc (.cells (madeCells (Value.agg #[.slice none 0 0, .slice none 0 0, .int .i64 0]).cells (ds.length * 3)) 69)).heap.size := by simp
        have sz := b.size
        replace X := X.below b
        replace Y := Y.below b
        replace BB := belowThen BB b
        replace hs := Nat.le_trans hs b.size
        try replace L := L.below b
        try replace D := D.below b
        try replace SS := SS.below b
        try replace RR := RR.below b
        clear b
        have SS := SS0
        clear SS0
        generalize wd.heap.size = sb at *
        generalize wd.alloc (.cells (madeCells (Value.agg #[.slice none 0 0, .slice none 0 0, .int .i64 0]).cells (ds.length * 3)) 69) = wd at *
        refine hK.out _ _ (by first | exact ⟨X 0 _ rfl, X 1 _ rfl⟩ | exact hx) (fun hHeld => ?_)
        clear hK K
        try simp only [Act.put, List.setIfInBounds_toArray, List.set_cons_zero, List.set_cons_succ]
        refine wpAnyH_ready (rs := [11]) (by kernel_rfl) (by simp) ?_
        refine AllReadyH.cons (o := { dst := some 19, op := Op.call { callee := Callee.value (Operand.func 19), args := #[], argTypes := #[] }, type := 49, pos := "l12_world.go:133", after := #[{ on := 10, ground := Ground.chain }], guard := none }) rfl (fun K hK => ?_) AllReadyH.nil
        go_simp
        refine (implReaderNew_any wd).mono ?_
        rintro e wd ⟨rfl, b⟩
        have sz := b.size
        replace X := X.below b
        replace Y := Y.below b
        replace BB := belowThen BB b
        replace hs := Nat.le_trans hs b.size
        try replace L := L.below b
        try replace D := D.below b
        try replace SS := SS.below b
        try replace RR := RR.below b
        clear b
        refine hK.out _ _ (by first | exact ⟨X 0 _ rfl, X 1 _ rfl⟩ | exact hx) (fun hHeld => ?_)
        clear hK K
        try simp only [Act.put, List.setIfInBounds_toArray, List.set_cons_zero, List.set_cons_succ]
        refine wpAnyH_ready (rs := [12]) (by kernel_rfl) (by simp) ?_
        refine AllReadyH.cons (o := { dst := some 20, op := Op.buildSlice 33 2 #[(0, Operand.tmp 18), (1, Operand.tmp 19)], type := 33, pos := "l12_world.go:130", after := #[{ on := 10, ground := Ground.data }, { on := 11, ground := Ground.data }], guard := none }) rfl (fun K hK => ?_) AllReadyH.nil
        try have f0 := D.fit
        try have f1 := SS.fit
        try have f2 := RR.fit
        have hlo7 := hs
        go_simp
        have RR0 := readersNew wd
        have b : Below wd.heap.size wd (wd.alloc (.cells #[.int .i64 1, .int .i64 1, .slice none 0 0, .int .i64 1, .int .i64 1, .slice none 0 0] 49)) := (Below.refl _ _).alloc (Nat.le_refl _) _
        have es : wd.heap.size + 1 ≤ (wd.alloc (.cells #[.int .i64 1, .int .i64 1, .slice none 0 0, .int .i64 1, .int .i64 1, .slice none 0 0] 49)).heap.size := by simp
        have sz := b.size
        replace X := X.below b
        replace Y := Y.below b
        replace BB := belowThen BB b
        replace hs := Nat.le_trans hs b.size
        try replace L := L.below b
        try replace D := D.below b
        try replace SS := SS.below b
        try replace RR := RR.below b
        clear b
        have RR := RR0
        clear RR0
        generalize wd.heap.size = rb at *
        generalize wd.alloc (.cells #[.int .i64 1, .int .i64 1, .slice none 0 0, .int .i64 1, .int .i64 1, .slice none 0 0] 49) = wd at *
        refine hK.out _ _ (by first | exact ⟨X 0 _ rfl, X 1 _ rfl⟩ | exact hx) (fun hHeld => ?_)
        clear hK K
        try simp only [Act.put, List.setIfInBounds_toArray, List.set_cons_zero, List.set_cons_succ]
        refine wpAnyH_take (i := 13) (oi := { dst := some 21, op := Op.build 36 #[(0, Operand.tmp 13), (1, Operand.tmp 17), (6, Operand.tmp 20)], type := 36, pos := "l12_world.go:130", after := #[{ on := 5, ground := Ground.data }, { on := 9, ground := Ground.data }, { on := 12, ground := Ground.data }], guard := none }) (v := ?_) rfl (by kernel_rfl) (by kernel_rfl) (by kernel_rfl) (fun _ _ _ h => h) (Or.inl ⟨by rfl, ?_⟩) (by assumption) ?_
        rotate_left 1
        · intro w hSw
          (try dsimp only at hSw)
          first | (go_simp; done) | (go_simp; with_reducible rfl)
        try simp only [Act.put, List.setIfInBounds_toArray, List.set_cons_zero, List.set_cons_succ]
        refine wpAnyH_ready (rs := [14]) (by kernel_rfl) (by simp) ?_
        refine AllReadyH.cons (o := { dst := none, op := Op.store 36 (Operand.tmp 2) (Operand.tmp 21), type := 0, pos := "l12_world.go:130", after := #[{ on := 13, ground := Ground.data }, { on := 11, ground := Ground.chain }, { on := 0, ground := Ground.phase }, { on := 1, ground := Ground.phase }, { on := 2, ground := Ground.phase }, { on := 3, ground := Ground.phase }, { on := 4, ground := Ground.phase }, { on := 5, ground := Ground.phase }, { on := 6, ground := Ground.phase }, { on := 7, ground := Ground.phase }, { on := 8, ground := Ground.phase }, { on := 9, ground := Ground.phase }, { on := 10, ground := Ground.phase }, { on := 11, ground := Ground.phase }, { on := 12, ground := Ground.phase }, { on := 13, ground := Ground.phase }], guard := none }) rfl (fun K hK => ?_) AllReadyH.nil
        have f0 := D.fit
        have f1 := SS.fit
        have f2 := RR.fit
        refine step_putW rfl _ _ _ rfl rfl [.slice da ds.length dc, .int .i64 cop, .slice (some ⟨sb, 0, none⟩) ds.length ds.length, .slice none 0 0, .slice none 0 0, .int .i64 0, .slice none 0 0, .slice none 0 0, .slice (some ⟨rb, 0, none⟩) 2 2, .slice none 0 0, .bool false] rfl rfl Y rfl (by kernel_rfl) (by kernel_rfl) ?_
        clear Y
        intro wd Y s g b
        replace D := D.off g (by omega) s
        replace SS := SS.off g (by omega) s
        replace RR := RR.off g (by omega) s
        replace X := X.off g (by omega)
        try replace L := L.off g (by omega)
        replace BB := BB.trans b
        clear g b
        refine hK.out _ _ (by first | exact ⟨X 0 _ rfl, X 1 _ rfl⟩ | exact hx) (fun hHeld => ?_)
        clear hK K
        try simp only [Act.put, List.setIfInBounds_toArray, List.set_cons_zero, List.set_cons_succ]
        refine wpAnyH_take (i := 15) (oi := { dst := some 3, op := Op.assign (Operand.const (Value.bool true)), type := 4, pos := "l12_world.go:130", after := #[{ on := 14, ground := Ground.chain }, { on := 0, ground := Ground.phase }, { on := 1, ground := Ground.phase }, { on := 2, ground := Ground.phase }, { on := 3, ground := Ground.phase }, { on := 4, ground := Ground.phase }, { on := 5, ground := Ground.phase }, { on := 6, ground := Ground.phase }, { on := 7, ground := Ground.phase }, { on := 8, ground := Ground.phase }, { on := 9, ground := Ground.phase }, { on := 10, ground := Ground.phase }, { on := 11, ground := Ground.phase }, { on := 12, ground := Ground.phase }, { on := 13, ground := Ground.phase }, { on := 14, ground := Ground.phase }], guard := none }) (v := ?_) rfl (by kernel_rfl) (by kernel_rfl) (by kernel_rfl) (fun _ _ _ h => h) (Or.inl ⟨by rfl, ?_⟩) (by assumption) ?_
        rotate_left 1
        · intro w hSw
          (try dsimp only at hSw)
          first | (go_simp; done) | (go_simp; with_reducible rfl)
        try simp only [Act.put, List.setIfInBounds_toArray, List.set_cons_zero, List.set_cons_succ]
        refine wpAnyH_done (by kernel_rfl) ?_ _
        refine NoPanic.normal ?_
        have k0 := (Y.2 0 _ rfl).1
        have k1 := (Y.2 1 _ rfl).1
        have k2 := (Y.2 2 _ rfl).1
        have k3 := (Y.2 3 _ rfl).1
        have k4 := (Y.2 4 _ rfl).1
        have k5 := (Y.2 5 _ rfl).1
        have k6 := (Y.2 6 _ rfl).1
        have k7 := (Y.2 7 _ rfl).1
        have k8 := (Y.2 8 _ rfl).1
        have k9 := (Y.2 9 _ rfl).1
        have k10 := (Y.2 10 _ rfl).1
        have QQ := owNew (lo := w.heap.size) (hi := wd.heap.size) cop D.now SS.now RR.now ⟨⟨by omega, by omega⟩, ⟨by omega, by omega⟩, ⟨by omega, by omega⟩, by omega⟩ (by omega) (by omega) (by omega)
        clear D SS RR X Y
        go_wp2_with fail
        refine bodyPost_ret (v := .tuple #[.agg #[.slice da ds.length dc, .int .i64 cop, .slice (some ⟨sb, 0, none⟩) ds.length ds.length, .slice none 0 0, .slice none 0 0, .int .i64 0, .slice none 0 0, .slice none 0 0, .slice (some ⟨rb, 0, none⟩) 2 2, .slice none 0 0, .bool false], .bool true]) (by simp [results, Try.results7, go_sem, k0, k1, k2, k3, k4, k5, k6, k7, k8, k9, k10]) rfl ⟨⟨_, rfl, QQ⟩, BB⟩
      · go_simp
        refine (implReaderNew_any wd).mono ?_
        rintro e wd ⟨rfl, b⟩
        have sz := b.size
        replace X := X.below b
        replace Y := Y.below b
        replace BB := belowThen BB b
        replace hs := Nat.le_trans hs b.size
        try replace L := L.below b
        try replace D := D.below b
        try replace SS := SS.below b
        try replace RR := RR.below b
        clear b
        refine hK.out _ _ (by first | exact ⟨X 0 _ rfl, X 1 _ rfl⟩ | exact hx) (fun hHeld => ?_)
        clear hK K
        try simp only [Act.put, List.setIfInBounds_toArray, List.set_cons_zero, List.set_cons_succ]
        refine wpAnyH_ready (rs := [9, 12]) (by kernel_rfl) (by simp) ?_
        refine AllReadyH.cons (o := { dst := some 17, op := Op.makeSlice 27 (Operand.tmp 16) (Operand.tmp 16), type := 27, pos := "l12_world.go:130", after := #[{ on := 8, ground := Ground.data }, { on := 8, ground := Ground.data }], guard := none }) rfl (fun K hK => ?_) (AllReadyH.cons (o := { dst := some 20, op := Op.buildSlice 33 2 #[(0, Operand.tmp 18), (1, Operand.tmp 19)], type := 33, pos := "l12_world.go:130", after := #[{ on := 10, ground := Ground.data }, { on := 11, ground := Ground.data }], guard := none }) rfl (fun K hK => ?_) AllReadyH.nil)
        · try have f0 := D.fit
          try have f1 := SS.fit
          try have f2 := RR.fit
          have hlo4 := hs
          refine step_mkW rfl _ _ _ rfl _ _ rfl rfl (makeS ds.length (by omega) wd) ?_
          have SS0 := storesNew wd ds.length (by omega)
          have b : Below wd.heap.size wd (wd.alloc (.cells (madeCells (Value.agg #[.slice none 0 0, .slice none 0 0, .int .i64 0]).cells (ds.length * 3)) 69)) := (Below.refl _ _).alloc (Nat.le_refl _) _
          have es : wd.heap.size + 1 ≤ (wd.alloc (.cells (madeCells (Value.agg #[.slice none 0 0, .slice none 0 0, .int .i64 0]).cells (ds.length * 3)) 69)).heap.size := by simp
          have sz := b.size
          replace X := X.below b
          replace Y := Y.below b
          replace BB := belowThen BB b
          replace hs := Nat.le_trans hs b.size
          try replace L := L.below b
          try replace D := D.below b
          try replace SS := SS.below b
          try replace RR := RR.below b
          clear b
          have SS := SS0
          clear SS0
          generalize wd.heap.size = sb at *
          generalize wd.alloc (.cells (madeCells (Value.agg #[.slice none 0 0, .slice none 0 0, .int .i64 0]).cells (ds.length * 3)) 69) = wd at *
          refine hK.out _ _ (by first | exact ⟨X 0 _ rfl, X 1 _ rfl⟩ | exact hx) (fun hHeld => ?_)
          clear hK K
          try simp only [Act.put, List.setIfInBounds_toArray, List.set_cons_zero, List.set_cons_succ]
          refine wpAnyH_ready (rs := [12]) (by kernel_rfl) (by simp) ?_
          refine AllReadyH.cons (o := { dst := some 20, op := Op.buildSlice 33 2 #[(0, Operand.tmp 18), (1, Operand.tmp 19)], type := 33, pos := "l12_world.go:130", after := #[{ on := 10, ground := Ground.data }, { on := 11, ground := Ground.data }], guard := none }) rfl (fun K hK => ?_) AllReadyH.nil
          try have f0 := D.fit
          try have f1 := SS.fit
          try have f2 := RR.fit
          have hlo7 := hs
          go_simp
          have RR0 := readersNew wd
          have b : Below wd.heap.size wd (wd.alloc (.cells #[.int .i64 1, .int .i64 1, .slice none 0 0, .int .i64 1, .int .i64 1, .slice none 0 0] 49)) := (Below.refl _ _).alloc (Nat.le_refl _) _
          have es : wd.heap.size + 1 ≤ (wd.alloc (.cells #[.int .i64 1, .int .i64 1, .slice none 0 0, .int .i64 1, .int .i64 1, .slice none 0 0] 49)).heap.size := by simp
          have sz := b.size
          replace X := X.below b
          replace Y := Y.below b
          replace BB := belowThen BB b
          replace hs := Nat.le_trans hs b.size
          try replace L := L.below b
          try replace D := D.below b
          try replace SS := SS.below b
          try replace RR := RR.below b
          clear b
          have RR := RR0
          clear RR0
          generalize wd.heap.size = rb at *
          generalize wd.alloc (.cells #[.int .i64 1, .int .i64 1, .slice none 0 0, .int .i64 1, .int .i64 1, .slice none 0 0] 49) = wd at *
          refine hK.out _ _ (by first | exact ⟨X 0 _ rfl, X 1 _ rfl⟩ | exact hx) (fun hHeld => ?_)
          clear hK K
          try simp only [Act.put, List.setIfInBounds_toArray, List.set_cons_zero, List.set_cons_succ]
          refine wpAnyH_take (i := 13) (oi := { dst := some 21, op := Op.build 36 #[(0, Operand.tmp 13), (1, Operand.tmp 17), (6, Operand.tmp 20)], type := 36, pos := "l12_world.go:130", after := #[{ on := 5, ground := Ground.data }, { on := 9, ground := Ground.data }, { on := 12, ground := Ground.data }], guard := none }) (v := ?_) rfl (by kernel_rfl) (by kernel_rfl) (by kernel_rfl) (fun _ _ _ h => h) (Or.inl ⟨by rfl, ?_⟩) (by assumption) ?_
          rotate_left 1
          · intro w hSw
            (try dsimp only at hSw)
            first | (go_simp; done) | (go_simp; with_reducible rfl)
          try simp only [Act.put, List.setIfInBounds_toArray, List.set_cons_zero, List.set_cons_succ]
          refine wpAnyH_ready (rs := [14]) (by kernel_rfl) (by simp) ?_
          refine AllReadyH.cons (o := { dst := none, op := Op.store 36 (Operand.tmp 2) (Operand.tmp 21), type := 0, pos := "l12_world.go:130", after := #[{ on := 13, ground := Ground.data }, { on := 11, ground := Ground.chain }, { on := 0, ground := Ground.phase }, { on := 1, ground := Ground.phase }, { on := 2, ground := Ground.phase }, { on := 3, ground := Ground.phase }, { on := 4, ground := Ground.phase }, { on := 5, ground := Ground.phase }, { on := 6, ground := Ground.phase }, { on := 7, ground := Ground.phase }, { on := 8, ground := Ground.phase }, { on := 9, ground := Ground.phase }, { on := 10, ground := Ground.phase }, { on := 11, ground := Ground.phase }, { on := 12, ground := Ground.phase }, { on := 13, ground := Ground.phase }], guard := none }) rfl (fun K hK => ?_) AllReadyH.nil
          have f0 := D.fit
          have f1 := SS.fit
          have f2 := RR.fit
          refine step_putW rfl _ _ _ rfl rfl [.slice da ds.length dc, .int .i64 cop, .slice (some ⟨sb, 0, none⟩) ds.length ds.length, .slice none 0 0, .slice none 0 0, .int .i64 0, .slice none 0 0, .slice none 0 0, .slice (some ⟨rb, 0, none⟩) 2 2, .slice none 0 0, .bool false] rfl rfl Y rfl (by kernel_rfl) (by kernel_rfl) ?_
          clear Y
          intro wd Y s g b
          replace D := D.off g (by omega) s
          replace SS := SS.off g (by omega) s
          replace RR := RR.off g (by omega) s
          replace X := X.off g (by omega)
          try replace L := L.off g (by omega)
          replace BB := BB.trans b
          clear g b
          refine hK.out _ _ (by first | exact ⟨X 0 _ rfl, X 1 _ rfl⟩ | exact hx) (fun hHeld => ?_)
          clear hK K
          try simp only [Act.put, List.setIfInBounds_toArray, List.set_cons_zero, List.set_cons_succ]
          refine wpAnyH_take (i := 15) (oi := { dst := some 3, op := Op.assign (Operand.const (Value.bool true)), type := 4, pos := "l12_world.go:130", after := #[{ on := 14, ground := Ground.chain }, { on := 0, ground := Ground.phase }, { on := 1, ground := Ground.phase }, { on := 2, ground := Ground.phase }, { on := 3, ground := Ground.phase }, { on := 4, ground := Ground.phase }, { on := 5, ground := Ground.phase }, { on := 6, ground := Ground.phase }, { on := 7, ground := Ground.phase }, { on := 8, ground := Ground.phase }, { on := 9, ground := Ground.phase }, { on := 10, ground := Ground.phase }, { on := 11, ground := Ground.phase }, { on := 12, ground := Ground.phase }, { on := 13, ground := Ground.phase }, { on := 14, ground := Ground.phase }], guard := none }) (v := ?_) rfl (by kernel_rfl) (by kernel_rfl) (by kernel_rfl) (fun _ _ _ h => h) (Or.inl ⟨by rfl, ?_⟩) (by assumption) ?_
          rotate_left 1
          · intro w hSw
            (try dsimp only at hSw)
            first | (go_simp; done) | (go_simp; with_reducible rfl)
          try simp only [Act.put, List.setIfInBounds_toArray, List.set_cons_zero, List.set_cons_succ]
          refine wpAnyH_done (by kernel_rfl) ?_ _
          refine NoPanic.normal ?_
          have k0 := (Y.2 0 _ rfl).1
          have k1 := (Y.2 1 _ rfl).1
          have k2 := (Y.2 2 _ rfl).1
          have k3 := (Y.2 3 _ rfl).1
          have k4 := (Y.2 4 _ rfl).1
          have k5 := (Y.2 5 _ rfl).1
          have k6 := (Y.2 6 _ rfl).1
          have k7 := (Y.2 7 _ rfl).1
          have k8 := (Y.2 8 _ rfl).1
          have k9 := (Y.2 9 _ rfl).1
          have k10 := (Y.2 10 _ rfl).1
          have QQ := owNew (lo := w.heap.size) (hi := wd.heap.size) cop D.now SS.now RR.now ⟨⟨by omega, by omega⟩, ⟨by omega, by omega⟩, ⟨by omega, by omega⟩, by omega⟩ (by omega) (by omega) (by omega)
          clear D SS RR X Y
          go_wp2_with fail
          refine bodyPost_ret (v := .tuple #[.agg #[.slice da ds.length dc, .int .i64 cop, .slice (some ⟨sb, 0, none⟩) ds.length ds.length, .slice none 0 0, .slice none 0 0, .int .i64 0, .slice none 0 0, .slice none 0 0, .slice (some ⟨rb, 0, none⟩) 2 2, .slice none 0 0, .bool false], .bool true]) (by simp [results, Try.results7, go_sem, k0, k1, k2, k3, k4, k5, k6, k7, k8, k9, k10]) rfl ⟨⟨_, rfl, QQ⟩, BB⟩
        · try have f0 := D.fit
          try have f1 := SS.fit
          try have f2 := RR.fit
          have hlo7 := hs
          go_simp
          have RR0 := readersNew wd
          have b : Below wd.heap.size wd (wd.alloc (.cells #[.int .i64 1, .int .i64 1, .slice none 0 0, .int .i64 1, .int .i64 1, .slice none 0 0] 49)) := (Below.refl _ _).alloc (Nat.le_refl _) _
          have es : wd.heap.size + 1 ≤ (wd.alloc (.cells #[.int .i64 1, .int .i64 1, .slice none 0 0, .int .i64 1, .int .i64 1, .slice none 0 0] 49)).heap.size := by simp
          have sz := b.size
          replace X := X.below b
          replace Y := Y.below b
          replace BB := belowThen BB b
          replace hs := Nat.le_trans hs b.size
          try replace L := L.below b
          try replace D := D.below b
          try replace SS := SS.below b
          try replace RR := RR.below b
          clear b
          have RR := RR0
          clear RR0
          generalize wd.heap.size = rb at *
          generalize wd.alloc (.cells #[.int .i64 1, .int .i64 1, .slice none 0 0, .int .i64 1, .int .i64 1, .slice none 0 0] 49) = wd at *
          refine hK.out _ _ (by first | exact ⟨X 0 _ rfl, X 1 _ rfl⟩ | exact hx) (fun hHeld => ?_)
          clear hK K
          try simp only [Act.put, List.setIfInBounds_toArray, List.set_cons_zero, List.set_cons_succ]
          refine wpAnyH_ready (rs := [9]) (by kernel_rfl) (by simp) ?_
          refine AllReadyH.cons (o := { dst := some 17, op := Op.makeSlice 27 (Operand.tmp 16) (Operand.tmp 16), type := 27, pos := "l12_world.go:130", after := #[{ on := 8, ground := Ground.data }, { on := 8, ground := Ground.data }], guard := none }) rfl (fun K hK => ?_) AllReadyH.nil
          try have f0 := D.fit
          try have f1 := SS.fit
          try have f2 := RR.fit
          have hlo4 := hs
          refine step_mkW rfl _ _ _ rfl _ _ rfl rfl (makeS ds.length (by omega) wd) ?_
          have SS0 := storesNew wd ds.length (by omega)
          have b : Below wd.heap.size wd (wd.alloc (.cells (madeCells (Value.agg #[.slice none 0 0, .slice none 0 0, .int .i64 0]).cells (ds.length * 3)) 69)) := (Below.refl _ _).alloc (Nat.le_refl _) _
          have es : wd.heap.size + 1 ≤ (wd.alloc (.cells (madeCells (Value.agg #[.slice none 0 0, .slice none 0 0, .int .i64 0]).cells (ds.length * 3)) 69)).heap.size := by simp
          have sz := b.size
          replace X := X.below b
          replace Y := Y.below b
          replace BB := belowThen BB b
          replace hs := Nat.le_trans hs b.size
          try replace L := L.below b
          try replace D := D.below b
          try replace SS := SS.below b
          try replace RR := RR.below b
          clear b
          have SS := SS0
          clear SS0
          generalize wd.heap.size = sb at *
          generalize wd.alloc (.cells (madeCells (Value.agg #[.slice none 0 0, .slice none 0 0, .int .i64 0]).cells (ds.length * 3)) 69) = wd at *
          refine hK.out _ _ (by first | exact ⟨X 0 _ rfl, X 1 _ rfl⟩ | exact hx) (fun hHeld => ?_)
          clear hK K
          try simp only [Act.put, List.setIfInBounds_toArray, List.set_cons_zero, List.set_cons_succ]
          refine wpAnyH_take (i := 13) (oi := { dst := some 21, op := Op.build 36 #[(0, Operand.tmp 13), (1, Operand.tmp 17), (6, Operand.tmp 20)], type := 36, pos := "l12_world.go:130", after := #[{ on := 5, ground := Ground.data }, { on := 9, ground := Ground.data }, { on := 12, ground := Ground.data }], guard := none }) (v := ?_) rfl (by kernel_rfl) (by kernel_rfl) (by kernel_rfl) (fun _ _ _ h => h) (Or.inl ⟨by rfl, ?_⟩) (by assumption) ?_
          rotate_left 1
          · intro w hSw
            (try dsimp only at hSw)
            first | (go_simp; done) | (go_simp; with_reducible rfl)
          try simp only [Act.put, List.setIfInBounds_toArray, List.set_cons_zero, List.set_cons_succ]
          refine wpAnyH_ready (rs := [14]) (by kernel_rfl) (by simp) ?_
          refine AllReadyH.cons (o := { dst := none, op := Op.store 36 (Operand.tmp 2) (Operand.tmp 21), type := 0, pos := "l12_world.go:130", after := #[{ on := 13, ground := Ground.data }, { on := 11, ground := Ground.chain }, { on := 0, ground := Ground.phase }, { on := 1, ground := Ground.phase }, { on := 2, ground := Ground.phase }, { on := 3, ground := Ground.phase }, { on := 4, ground := Ground.phase }, { on := 5, ground := Ground.phase }, { on := 6, ground := Ground.phase }, { on := 7, ground := Ground.phase }, { on := 8, ground := Ground.phase }, { on := 9, ground := Ground.phase }, { on := 10, ground := Ground.phase }, { on := 11, ground := Ground.phase }, { on := 12, ground := Ground.phase }, { on := 13, ground := Ground.phase }], guard := none }) rfl (fun K hK => ?_) AllReadyH.nil
          have f0 := D.fit
          have f1 := SS.fit
          have f2 := RR.fit
          refine step_putW rfl _ _ _ rfl rfl [.slice da ds.length dc, .int .i64 cop, .slice (some ⟨sb, 0, none⟩) ds.length ds.length, .slice none 0 0, .slice none 0 0, .int .i64 0, .slice none 0 0, .slice none 0 0, .slice (some ⟨rb, 0, none⟩) 2 2, .slice none 0 0, .bool false] rfl rfl Y rfl (by kernel_rfl) (by kernel_rfl) ?_
          clear Y
          intro wd Y s g b
          replace D := D.off g (by omega) s
          replace SS := SS.off g (by omega) s
          replace RR := RR.off g (by omega) s
          replace X := X.off g (by omega)
          try replace L := L.off g (by omega)
          replace BB := BB.trans b
          clear g b
          refine hK.out _ _ (by first | exact ⟨X 0 _ rfl, X 1 _ rfl⟩ | exact hx) (fun hHeld => ?_)
          clear hK K
          try simp only [Act.put, List.setIfInBounds_toArray, List.set_cons_zero, List.set_cons_succ]
          refine wpAnyH_take (i := 15) (oi := { dst := some 3, op := Op.assign (Operand.const (Value.bool true)), type := 4, pos := "l12_world.go:130", after := #[{ on := 14, ground := Ground.chain }, { on := 0, ground := Ground.phase }, { on := 1, ground := Ground.phase }, { on := 2, ground := Ground.phase }, { on := 3, ground := Ground.phase }, { on := 4, ground := Ground.phase }, { on := 5, ground := Ground.phase }, { on := 6, ground := Ground.phase }, { on := 7, ground := Ground.phase }, { on := 8, ground := Ground.phase }, { on := 9, ground := Ground.phase }, { on := 10, ground := Ground.phase }, { on := 11, ground := Ground.phase }, { on := 12, ground := Ground.phase }, { on := 13, ground := Ground.phase }, { on := 14, ground := Ground.phase }], guard := none }) (v := ?_) rfl (by kernel_rfl) (by kernel_rfl) (by kernel_rfl) (fun _ _ _ h => h) (Or.inl ⟨by rfl, ?_⟩) (by assumption) ?_
          rotate_left 1
          · intro w hSw
            (try dsimp only at hSw)
            first | (go_simp; done) | (go_simp; with_reducible rfl)
          try simp only [Act.put, List.setIfInBounds_toArray, List.set_cons_zero, List.set_cons_succ]
          refine wpAnyH_done (by kernel_rfl) ?_ _
          refine NoPanic.normal ?_
          have k0 := (Y.2 0 _ rfl).1
          have k1 := (Y.2 1 _ rfl).1
          have k2 := (Y.2 2 _ rfl).1
          have k3 := (Y.2 3 _ rfl).1
          have k4 := (Y.2 4 _ rfl).1
          have k5 := (Y.2 5 _ rfl).1
          have k6 := (Y.2 6 _ rfl).1
          have k7 := (Y.2 7 _ rfl).1
          have k8 := (Y.2 8 _ rfl).1
          have k9 := (Y.2 9 _ rfl).1
          have k10 := (Y.2 10 _ rfl).1
          have QQ := owNew (lo := w.heap.size) (hi := wd.heap.size) cop D.now SS.now RR.now ⟨⟨by omega, by omega⟩, ⟨by omega, by omega⟩, ⟨by omega, by omega⟩, by omega⟩ (by omega) (by omega) (by omega)
          clear D SS RR X Y
          go_wp2_with fail
          refine bodyPost_ret (v := .tuple #[.agg #[.slice da ds.length dc, .int .i64 cop, .slice (some ⟨sb, 0, none⟩) ds.length ds.length, .slice none 0 0, .slice none 0 0, .int .i64 0, .slice none 0 0, .slice none 0 0, .slice (some ⟨rb, 0, none⟩) 2 2, .slice none 0 0, .bool false], .bool true]) (by simp [results, Try.results7, go_sem, k0, k1, k2, k3, k4, k5, k6, k7, k8, k9, k10]) rfl ⟨⟨_, rfl, QQ⟩, BB⟩
  · clear hx bdr hw1
    generalize w1.drew = wd at *
    try have f0 := D.fit
    try have f1 := SS.fit
    try have f2 := RR.fit
    have hlo4 := hs
    refine step_mkW rfl _ _ _ rfl _ _ rfl rfl (makeS ds.length (by omega) wd) ?_
    have SS0 := storesNew wd ds.length (by omega)
    have b : Below wd.heap.size wd (wd.alloc (.cells (madeCells (Value.agg #[.slice none 0 0, .slice none 0 0, .int .i64 0]).cells (ds.length * 3)) 69)) := (Below.refl _ _).alloc (Nat.le_refl _) _
    have es : wd.heap.size + 1 ≤ (wd.alloc (.cells (madeCells (Value.agg #[.slice none 0 0, .slice none 0 0, .int .i64 0]).cells (ds.length * 3)) 69)).heap.size := by simp
    have sz := b.size
    replace X := X.below b
    replace Y := Y.below b
    replace BB := belowThen BB b
    replace hs := Nat.le_trans hs b.size
    try replace L := L.below b
    try replace D := D.below b
    try replace SS := SS.below b
    try replace RR := RR.below b
    clear b
    have SS := SS0
    clear SS0
    generalize wd.heap.size = sb at *
    generalize wd.alloc (.cells (madeCells (Value.agg #[.slice none 0 0, .slice none 0 0, .int .i64 0]).cells (ds.length * 3)) 69) = wd at *
    refine hK.out _ _ (by first | exact ⟨X 0 _ rfl, X 1 _ rfl⟩ | exact hx) (fun hHeld => ?_)
    clear hK K
    try simp only [Act.put, List.setIfInBounds_toArray, List.set_cons_zero, List.set_cons_succ]
    refine wpAnyH_ready (rs := [2]) (by kernel_rfl) (by simp) ?_
    refine AllReadyH.cons (o := { dst := some 10, op := Op.call { callee := Callee.value (Operand.func 18), args := #[Operand.tmp 9], argTypes := #[22] }, type := 22, pos := "l12_world.go:131", after := #[{ on := 1, ground := Ground.data }], guard := none }) rfl (fun K hK => ?_) AllReadyH.nil
    try have f0 := D.fit
    try have f1 := SS.fit
    try have f2 := RR.fit
    have hlo2 := hs
    go_simp
    refine (cloneI_any _ ds wd (dUnhide HV _ BB) (by omega)).mono ?_
    rintro e wd ⟨⟨dv, rfl, O'⟩, b⟩
    have O := O'.own
    clear O'
    obtain ⟨-, da, dc, rfl, -, -⟩ := O.bs
    have sz := b.size
    replace X := X.below b
    replace Y := Y.below b
    replace BB := belowThen BB b
    replace hs := Nat.le_trans hs b.size
    try replace L := L.below b
    try replace D := D.below b
    try replace SS := SS.below b
    try replace RR := RR.below b
    clear b
    have D := OwN.sits ⟨O, O.bs.lt⟩ (Nat.le_refl _)
    clear O
    refine hK.out _ _ (by first | exact ⟨X 0 _ rfl, X 1 _ rfl⟩ | exact hx) (fun hHeld => ?_)
    clear hK K
    try simp only [Act.put, List.setIfInBounds_toArray, List.set_cons_zero, List.set_cons_succ]
    refine wpAnyH_take (i := 5) (oi := { dst := some 13, op := Op.build 26 #[(0, Operand.tmp 10), (1, Operand.tmp 12)], type := 26, pos := "l12_world.go:130", after := #[{ on := 2, ground := Ground.data }, { on := 4, ground := Ground.data }], guard := none }) (v := ?_) rfl (by kernel_rfl) (by kernel_rfl) (by kernel_rfl) (fun _ _ _ h => h) (Or.inl ⟨by rfl, ?_⟩) (by assumption) ?_
    rotate_left 1
    · intro w hSw
      (try dsimp only at hSw)
      first | (go_simp; done) | (go_simp; with_reducible rfl)
    try simp only [Act.put, List.setIfInBounds_toArray, List.set_cons_zero, List.set_cons_succ]
    refine wpAnyH_ready (rs := [10]) (by kernel_rfl) (by simp) ?_
    refine AllReadyH.cons (o := { dst := some 18, op := Op.call { callee := Callee.value (Operand.func 19), args := #[], argTypes := #[] }, type := 49, pos := "l12_world.go:133", after := #[{ on := 2, ground := Ground.chain }], guard := none }) rfl (fun K hK => ?_) AllReadyH.nil
    go_simp
    refine (implReaderNew_any wd).mono ?_
    rintro e wd ⟨rfl, b⟩
    have sz := b.size
    replace X := X.below b
    replace Y := Y.below b
    replace BB := belowThen BB b
    replace hs := Nat.le_trans hs b.size
    try replace L := L.below b
    try replace D := D.below b
    try replace SS := SS.below b
    try replace RR := RR.below b
    clear b
    refine hK.out _ _ (by first | exact ⟨X 0 _ rfl, X 1 _ rfl⟩ | exact hx) (fun hHeld => ?_)
    clear hK K
    try simp only [Act.put, List.setIfInBounds_toArray, List.set_cons_zero, List.set_cons_succ]
    refine wpAnyH_ready (rs := [11]) (by kernel_rfl) (by simp) ?_
    refine AllReadyH.cons (o := { dst := some 19, op := Op.call { callee := Callee.value (Operand.func 19), args := #[], argTypes := #[] }, type := 49, pos := "l12_world.go:133", after := #[{ on := 10, ground := Ground.chain }], guard := none }) rfl (fun K hK => ?_) AllReadyH.nil
    go_simp
    refine (implReaderNew_any wd).mono ?_
    rintro e wd ⟨rfl, b⟩
    have sz := b.size
    replace X := X.below b
    replace Y := Y.below b
    replace BB := belowThen BB b
    replace hs := Nat.le_trans hs b.size
    try replace L := L.below b
    try replace D := D.below b
    try replace SS := SS.below b
    try replace RR := RR.below b
    clear b
    refine hK.out _ _ (by first | exact ⟨X 0 _ rfl, X 1 _ rfl⟩ | exact hx) (fun hHeld => ?_)
    clear hK K
    try simp only [Act.put, List.setIfInBounds_toArray, List.set_cons_zero, List.set_cons_succ]
    refine wpAnyH_ready (rs := [12]) (by kernel_rfl) (by simp) ?_
    refine AllReadyH.cons (o := { dst := some 20, op := Op.buildSlice 33 2 #[(0, Operand.tmp 18), (1, Operand.tmp 19)], type := 33, pos := "l12_world.go:130", after := #[{ on := 10, ground := Ground.data }, { on := 11, ground := Ground.data }], guard := none }) rfl (fun K hK => ?_) AllReadyH.nil
    try have f0 := D.fit
    try have f1 := SS.fit
    try have f2 := RR.fit
    have hlo7 := hs
    go_simp
    have RR0 := readersNew wd
    have b : Below wd.heap.size wd (wd.alloc (.cells #[.int .i64 1, .int .i64 1, .slice none 0 0, .int .i64 1, .int .i64 1, .slice none 0 0] 49)) := (Below.refl _ _).alloc (Nat.le_refl _) _
    have es : wd.heap.size + 1 ≤ (wd.alloc (.cells #[.int .i64 1, .int .i64 1, .slice none 0 0, .int .i64 1, .int .i64 1, .slice none 0 0] 49)).heap.size := by simp
    have sz := b.size
    replace X := X.below b
    replace Y := Y.below b
    replace BB := belowThen BB b
    replace hs := Nat.le_trans hs b.size
    try replace L := L.below b
    try replace D := D.below b
    try replace SS := SS.below b
    try replace RR := RR.below b
    clear b
    have RR := RR0
    clear RR0
    generalize wd.heap.size = rb at *
    generalize wd.alloc (.cells #[.int .i64 1, .int .i64 1, .slice none 0 0, .int .i64 1, .int .i64 1, .slice none 0 0] 49) = wd at *
    refine hK.out _ _ (by first | exact ⟨X 0 _ rfl, X 1 _ rfl⟩ | exact hx) (fun hHeld => ?_)
    clear hK K
    try simp only [Act.put, List.setIfInBounds_toArray, List.set_cons_zero, List.set_cons_succ]
    refine wpAnyH_take (i := 13) (oi := { dst := some 21, op := Op.build 36 #[(0, Operand.tmp 13), (1, Operand.tmp 17), (6, Operand.tmp 20)], type := 36, pos := "l12_world.go:130", after := #[{ on := 5, ground := Ground.data }, { on := 9, ground := Ground.data }, { on := 12, ground := Ground.data }], guard := none }) (v := ?_) rfl (by kernel_rfl) (by kernel_rfl) (by kernel_rfl) (fun _ _ _ h => h) (Or.inl ⟨by rfl, ?_⟩) (by assumption) ?_
    rotate_left 1
    · intro w hSw
      (try dsimp only at hSw)
      first | (go_simp; done) | (go_simp; with_reducible rfl)
    try simp only [Act.put, List.setIfInBounds_toArray, List.set_cons_zero, List.set_cons_succ]
    refine wpAnyH_ready (rs := [14]) (by kernel_rfl) (by simp) ?_
    refine AllReadyH.cons (o := { dst := none, op := Op.store 36 (Operand.tmp 2) (Operand.tmp 21), type := 0, pos := "l12_world.go:130", after := #[{ on := 13, ground := Ground.data }, { on := 11, ground := Ground.chain }, { on := 0, ground := Ground.phase }, { on := 1, ground := Ground.phase }, { on := 2, ground := Ground.phase }, { on := 3, ground := Ground.phase }, { on := 4, ground := Ground.phase }, { on := 5, ground := Ground.phase }, { on := 6, ground := Ground.phase }, { on := 7, ground := Ground.phase }, { on := 8, ground := Ground.phase }, { on := 9, ground := Ground.phase }, { on := 10, ground := Ground.phase }, { on := 11, ground := Ground.phase }, { on := 12, ground := Ground.phase }, { on := 13, ground := Ground.phase }], guard := none }) rfl (fun K hK => ?_) AllReadyH.nil
    have f0 := D.fit
    have f1 := SS.fit
    have f2 := RR.fit
    refine step_putW rfl _ _ _ rfl rfl [.slice da ds.length dc, .int .i64 cop, .slice (some ⟨sb, 0, none⟩) ds.length ds.length, .slice none 0 0, .slice none 0 0, .int .i64 0, .slice none 0 0, .slice none 0 0, .slice (some ⟨rb, 0, none⟩) 2 2, .slice none 0 0, .bool false] rfl rfl Y rfl (by kernel_rfl) (by kernel_rfl) ?_
    clear Y
    intro wd Y s g b
    replace D := D.off g (by omega) s
    replace SS := SS.off g (by omega) s
    replace RR := RR.off g (by omega) s
    replace X := X.off g (by omega)
    try replace L := L.off g (by omega)
    replace BB := BB.trans b
    clear g b
    refine hK.out _ _ (by first | exact ⟨X 0 _ rfl, X 1 _ rfl⟩ | exact hx) (fun hHeld => ?_)
    clear hK K
    try simp only [Act.put, List.setIfInBounds_toArray, List.set_cons_zero, List.set_cons_succ]
    refine wpAnyH_take (i := 15) (oi := { dst := some 3, op := Op.assign (Operand.const (Value.bool true)), type := 4, pos := "l12_world.go:130", after := #[{ on := 14, ground := Ground.chain }, { on := 0, ground := Ground.phase }, { on := 1, ground := Ground.phase }, { on := 2, ground := Ground.phase }, { on := 3, ground := Ground.phase }, { on := 4, ground := Ground.phase }, { on := 5, ground := Ground.phase }, { on := 6, ground := Ground.phase }, { on := 7, ground := Ground.phase }, { on := 8, ground := Ground.phase }, { on := 9, ground := Ground.phase }, { on := 10, ground := Ground.phase }, { on := 11, ground := Ground.phase }, { on := 12, ground := Ground.phase }, { on := 13, ground := Ground.phase }, { on := 14, ground := Ground.phase }], guard := none }) (v := ?_) rfl (by kernel_rfl) (by kernel_rfl) (by kernel_rfl) (fun _ _ _ h => h) (Or.inl ⟨by rfl, ?_⟩) (by assumption) ?_
    rotate_left 1
    · intro w hSw
      (try dsimp only at hSw)
      first | (go_simp; done) | (go_simp; with_reducible rfl)
    try simp only [Act.put, List.setIfInBounds_toArray, List.set_cons_zero, List.set_cons_succ]
    refine wpAnyH_done (by kernel_rfl) ?_ _
    refine NoPanic.normal ?_
    have k0 := (Y.2 0 _ rfl).1
    have k1 := (Y.2 1 _ rfl).1
    have k2 := (Y.2 2 _ rfl).1
    have k3 := (Y.2 3 _ rfl).1
    have k4 := (Y.2 4 _ rfl).1
    have k5 := (Y.2 5 _ rfl).1
    have k6 := (Y.2 6 _ rfl).1
    have k7 := (Y.2 7 _ rfl).1
    have k8 := (Y.2 8 _ rfl).1
    have k9 := (Y.2 9 _ rfl).1
    have k10 := (Y.2 10 _ rfl).1
    have QQ := owNew (lo := w.heap.size) (hi := wd.heap.size) cop D.now SS.now RR.now ⟨⟨by omega, by omega⟩, ⟨by omega, by omega⟩, ⟨by omega, by omega⟩, by omega⟩ (by omega) (by omega) (by omega)
    clear D SS RR X Y
    go_wp2_with fail
    refine bodyPost_ret (v := .tuple #[.agg #[.slice da ds.length dc, .int .i64 cop, .slice (some ⟨sb, 0, none⟩) ds.length ds.length, .slice none 0 0, .slice none 0 0, .int .i64 0, .slice none 0 0, .slice none 0 0, .slice (some ⟨rb, 0, none⟩) 2 2, .slice none 0 0, .bool false], .bool true]) (by simp [results, Try.results7, go_sem, k0, k1, k2, k3, k4, k5, k6, k7, k8, k9, k10]) rfl ⟨⟨_, rfl, QQ⟩, BB⟩
end Go.Proofs.Ytaamipmlalplbaa
