/- The walk of the law FnFilled (printed by tools/mkl11f.py). -/
import Derived.Test.YtejmfohkobhidaaDfA
import Derived.Test.YtejmfohkobhidaaGf1
import Derived.Test.YtejmfohkobhidaaFiI
import Derived.Test.YtejmfohkobhidaaImFm
import Derived.Test.YtejmfohkobhidaaGf7
import Derived.Test.YtejmfohkobhidaaGaA
import Derived.BigQuiet
import Derived.Deep.DeepCutAuto
namespace Go.Proofs.Ytejmfohkobhidaa
open Go.ChangeShapes Go.WideShapes Go.ChangeAt Go.RowKit
set_option linter.unusedVariables false
set_option linter.unusedSimpArgs false

theorem findT_exF (G : Option Ent) : ∃ (ge : Ent) (gb : Bool), findT G = .tuple #[.agg #[.int .i64 ge.pl, .int .i64 ge.wave, .bool ge.hole, .string ge.data], .bool gb] ∧ ∀ o, G = some o → gb = true ∧ ge = o := by
  cases G with
  | none => exact ⟨noEnt, false, rfl, fun o h => by cases h⟩
  | some e => exact ⟨e, true, rfl, fun o h => by cases h; exact ⟨rfl, rfl⟩⟩
theorem sumQ_300F (ms : List St) (h : ∀ m ∈ ms, m.kept.length ≤ 300) : sumQ (kepts ms) ≤ 300 * ms.length := by
  induction ms with
  | nil => simp [sumQ, kepts]
  | cons m l ih =>
    have e1 : sumQ (kepts (m :: l)) = m.kept.length + sumQ (kepts l) := by simp [sumQ, kepts]
    have h1 := h m (by simp)
    have h2 := ih fun m hm => h m (by simp [hm])
    rw [e1, List.length_cons]
    omega
/-- What RetB tells, as a Bool. -/
theorem RetB.bool {p : Prop} {e : Ending} (h : RetB p e) : e = .returned (.bool (@decide p (Classical.propDecidable p))) := by
  obtain ⟨b, rfl, hb⟩ := h
  by_cases hp : p
  · rw [@decide_eq_true p (Classical.propDecidable p) hp, hb.2 hp]
  · have : b = false := by
      cases b
      · rfl
      · exact absurd (hb.1 rfl) hp
    rw [@decide_eq_false p (Classical.propDecidable p) hp, this]
set_option maxHeartbeats 16000000 in
set_option maxRecDepth 100000 in
theorem walkFnFilled (a0 : Option Addr) (len0 cap0 : Nat) (z0 : List Int) (w : World) (w0 : IsRow .u8 w a0 len0 cap0 z0) :
    Calls Try.prog 5 #[.slice a0 len0 cap0] w fun e w' => e = .returned (.bool true) ∧ Below w.heap.size w w' := by
  have hr := row8_of w0
  have hlen := hr.1
  clear w0
  by_cases hbig : 1048576 < len0
  · have CB := dHide (big_yes a0 len0 cap0 hbig hlen)
    go_enter Try.func5, Try.ntmps5
    go_wp2_with fail
    refine (dUnhide CB _).mono ?_
    rintro e w1 ⟨rfl, rfl⟩
    go_wp2
    go_ret
    exact ⟨rfl, Below.refl _ _⟩
  have CB := dHide (big_no a0 len0 cap0 hbig)
  have CD := dHide (drawFill_any a0 len0 cap0 w hr)
  have ba : ∀ (w : World) o, Below w.heap.size w (w.alloc o) := fun w o => (Below.refl _ _).alloc (Nat.le_refl _) o
  clear hbig hr
  go_enter Try.func5, Try.ntmps5
  go_wp2_with fail
  refine (dUnhide CB _).mono ?_
  rintro e w1 ⟨rfl, rfl⟩
  clear CB
  go_wp2_with fail
  refine (dUnhide CD).mono ?_
  rintro r w1 ⟨⟨_, rfl, c, o, lv, ds, cop, ls, n, node, upto, rfl, ⟨cv, rfl, HC1, hdl, had, hc0, hc1⟩, HU1, ⟨HL1, hll, hal⟩, hn, hup⟩, B1⟩
  obtain ⟨rs, rfl, hrw, hp⟩ := HU1.u
  clear HU1 CD
  obtain ⟨-, ca, cc, rfl, -, -⟩ := id HC1
  obtain ⟨-, la, lc, rfl, -, -⟩ := id HL1
  obtain ⟨h0, oa, oc, rfl, -, -⟩ := id hrw
  have bA := ba w1 (.cells #[.slice ca ds.length cc, .int .i64 cop] 42)
  have X2 := Bx.new w1 [.slice ca ds.length cc, .int .i64 cop] 42
  have B2 := belowThen B1 bA
  have HSS : Hid (∀ W, Below w1.heap.size w1 W → RdStoreS (.slice oa rs.length oc) (rs.map Ps.m) W) := fun W hb => ⟨rs, rfl, hrw.below hb, fun p hq => (hp p hq).1.below hb⟩
  have hfit : ∀ m ∈ rs.map Ps.m, fitS m := fun m hm => by
    obtain ⟨p, hq, rfl⟩ := List.mem_map.1 hm
    exact (hp p hq).2.1
  have hsm : (rs.map Ps.m).length + sumQ (kepts (rs.map Ps.m)) ≤ 1048576 := by
    have := sumQ_300F (rs.map Ps.m) fun m hm => by
      obtain ⟨p, hq, rfl⟩ := List.mem_map.1 hm
      exact (hp p hq).2.2.1
    rw [List.length_map] at this ⊢
    omega
  have CI := dHide fun W (hb : Below w1.heap.size w1 W) => implFill_q _ _ _ ds cop _ ls node upto W (HC1.below hb).bs (dUnhide HSS W hb) (HL1.below hb).bs hfit hsm hal (by omega) had (by omega) (by omega) (by omega) hup.1 hup.2
  have CS := dHide fun W (hb : Below w1.heap.size w1 W) => specFill_q _ _ _ ds cop _ ls node upto W (HC1.below hb).bs (dUnhide HSS W hb) (HL1.below hb).bs hfit hsm hal (by omega) had (by omega) (by omega) (by omega) hup.1 hup.2
  have CLI0 := dHide fun W (hb : Below w1.heap.size w1 W) => (implLost_any _ _ ds ls cop W (HC1.below hb).bs (HL1.below hb).bs had hal (by omega) (by omega) (by omega) (by omega)).mono fun e w' h => (⟨h.1.bool, h.2⟩ : e = .returned (.bool (@decide _ (Classical.propDecidable (lostP ds cop ls)))) ∧ Below W.heap.size W w')
  have CLS0 := dHide fun W (hb : Below w1.heap.size w1 W) => (specLost_any _ _ ds ls cop W (HC1.below hb).bs (HL1.below hb).bs (by omega)).mono fun e w' h => (⟨h.1.bool, h.2⟩ : e = .returned (.bool (@decide _ (Classical.propDecidable (lostP ds cop ls)))) ∧ Below W.heap.size W w')
  have CH0 := dHide fun W (hb : Below w1.heap.size w1 W) => implHolds_any _ _ ds ls cop W (HC1.below hb).bs (HL1.below hb).bs had hal (by omega) (by omega) (by omega) (by omega)
  have CW0 := dHide fun y W (hb : Below w1.heap.size w1 W) => within_any _ ls y W (HL1.below hb).bs
  have HV := dHide fun W (hb : Below w1.heap.size w1 W) => hrw.below hb
  have HKE := dHide fun k (hk : k < rs.length) W (hb : Below w1.heap.size w1 W) => psVal_kept (((hp _ (List.getElem_mem hk)).1).below hb)
  have HKL : Hid (∀ k (hk : k < rs.length), rs[k].m.kept.length ≤ 300) := fun k hk => (hp _ (List.getElem_mem hk)).2.2.1
  have TF : Hid (∀ m, fillM ds cop (rs.map Ps.m) ls node upto = (m, false) → m = ⟨[], [], 0⟩) := fun m h => fill_false h
  have TT : Hid (∀ m, fillM ds cop (rs.map Ps.m) ls node upto = (m, true) → stP m ∧ m.late = [] ∧ m.lock = upto ∧ lostP ds cop ls ∧ ∀ i (hi : i < rs.length), (i : Int) ∉ ls → ∀ x ∈ rs[i].m.kept, ∃ o, getM m x.pl = some o ∧ x.wave ≤ o.wave) := fun m h => by
    obtain ⟨q1, q2, q3, q4, q5⟩ := fill_true h
    refine ⟨q1, q2, q3, q4, fun i hi hn x hx => q5 i (by simpa using hi) hn x ?_⟩
    rw [List.getElem_map]
    exact hx
  generalize @decide _ (Classical.propDecidable (lostP ds cop ls)) = LB at *
  generalize hM : fillM ds cop (rs.map Ps.m) ls node upto = M at *
  clear hM hp hfit hsm HSS HC1 HL1 hrw hal had hll hdl hup
  obtain ⟨m, mb⟩ := M
  have b12 := bA
  have y0 := X2 0 _ rfl
  have y1 := X2 1 _ rfl
  go_wp2_with fail
  have hbx : Hid (w1.heap.size = w1.heap.size) := rfl
  generalize w1.alloc (.cells #[.slice ca ds.length cc, .int .i64 cop] 42) = w2 at *
  refine (dUnhide CI _ b12).mono ?_
  rintro r w3 ⟨⟨u3, rfl, O3⟩, b3⟩
  obtain ⟨k3, c3, l3, d3, rfl⟩ := O3.shape
  try simp only at O3
  have bN := ba w3 (.cells #[.slice k3 m.kept.length c3, .slice l3 m.late.length d3, .int .i64 m.lock] 26)
  have b4 := belowThen b3 bN
  have X4 := X2.below b4
  have N4 := Bx.new w3 [.slice k3 m.kept.length c3, .slice l3 m.late.length d3, .int .i64 m.lock] 26
  have O4 := O3.below bN
  have B4 := belowThen B2 b4
  have b14 := belowThen b12 b4
  clear CI b3 O3 X2 B2 b4 bN y0 y1 bA b12
  have y0 := X4 0 _ rfl
  have y1 := X4 1 _ rfl
  go_wp2_with fail
  generalize hbn : w3.heap.size = bn at *
  generalize w3.alloc (.cells #[.slice k3 m.kept.length c3, .slice l3 m.late.length d3, .int .i64 m.lock] 26) = w4 at *
  clear hbn
  refine (dUnhide CS _ b14).mono ?_
  rintro r w5 ⟨⟨u5, rfl, O5⟩, b5⟩
  obtain ⟨k5, c5, l5, d5, rfl⟩ := O5.shape
  try simp only at O5
  have bO := ba w5 (.cells #[.slice k5 m.kept.length c5, .slice l5 m.late.length d5, .int .i64 m.lock] 26)
  have b6 := belowThen b5 bO
  have X6 := X4.below b6
  have N6 := N4.below b6
  have O6 := O4.below b6
  have B6 := belowThen B4 b6
  have b16 := belowThen b14 b6
  clear CS b5 O5 X4 N4 O4 B4 b6 bO y0 y1 b14
  have CLI := dHide fun W (hb : Below (w5.alloc (.cells #[.slice k5 m.kept.length c5, .slice l5 m.late.length d5, .int .i64 m.lock] 26)).heap.size (w5.alloc (.cells #[.slice k5 m.kept.length c5, .slice l5 m.late.length d5, .int .i64 m.lock] 26)) W) => dUnhide CLI0 W (belowThen b16 hb)
  have CLS := dHide fun W (hb : Below (w5.alloc (.cells #[.slice k5 m.kept.length c5, .slice l5 m.late.length d5, .int .i64 m.lock] 26)).heap.size (w5.alloc (.cells #[.slice k5 m.kept.length c5, .slice l5 m.late.length d5, .int .i64 m.lock] 26)) W) => dUnhide CLS0 W (belowThen b16 hb)
  have CH := dHide fun W (hb : Below (w5.alloc (.cells #[.slice k5 m.kept.length c5, .slice l5 m.late.length d5, .int .i64 m.lock] 26)).heap.size (w5.alloc (.cells #[.slice k5 m.kept.length c5, .slice l5 m.late.length d5, .int .i64 m.lock] 26)) W) => dUnhide CH0 W (belowThen b16 hb)
  have CW := dHide fun y W (hb : Below (w5.alloc (.cells #[.slice k5 m.kept.length c5, .slice l5 m.late.length d5, .int .i64 m.lock] 26)).heap.size (w5.alloc (.cells #[.slice k5 m.kept.length c5, .slice l5 m.late.length d5, .int .i64 m.lock] 26)) W) => dUnhide CW0 y W (belowThen b16 hb)
  have HV6 := dHide fun W (hb : Below (w5.alloc (.cells #[.slice k5 m.kept.length c5, .slice l5 m.late.length d5, .int .i64 m.lock] 26)).heap.size (w5.alloc (.cells #[.slice k5 m.kept.length c5, .slice l5 m.late.length d5, .int .i64 m.lock] 26)) W) => dUnhide HV W (belowThen b16 hb)
  have HK6 := dHide fun k (hk : k < rs.length) W (hb : Below (w5.alloc (.cells #[.slice k5 m.kept.length c5, .slice l5 m.late.length d5, .int .i64 m.lock] 26)).heap.size (w5.alloc (.cells #[.slice k5 m.kept.length c5, .slice l5 m.late.length d5, .int .i64 m.lock] 26)) W) => dUnhide HKE k hk W (belowThen b16 hb)
  clear CLI0 CLS0 CH0 CW0 HV HKE b16 hbx
  go_wp2_with fail
  generalize w5.alloc (.cells #[.slice k5 m.kept.length c5, .slice l5 m.late.length d5, .int .i64 m.lock] 26) = w6 at *
  have PK : Hid (∀ W, Below w6.heap.size w6 W → W.cell? ⟨w1.heap.size, 0, none⟩ = some (.slice ca ds.length cc) ∧ W.cell? ⟨w1.heap.size, 1, none⟩ = some (.int .i64 cop)) := fun W hB => ⟨(X6.below hB) 0 _ rfl, (X6.below hB) 1 _ rfl⟩
  have bdr : Below w6.heap.size w6 w6.drew := (Below.refl _ _).drew
  obtain ⟨y0, y1⟩ := dUnhide PK w6 (Below.refl _ _)
  have hne : ∀ b : Bool, (b != b) = false := fun b => by cases b <;> rfl
  go_cut [55] (fun s55 wx => s55 = .bool false ∧ Below w6.heap.size w6 wx)
  case first =>
    cases mb
    all_goals
      cases LB
      all_goals
        refine wp_region_noPanic ?_
        refine wp_region_held_drew (S := fun W => W.cell? ⟨w1.heap.size, 0, none⟩ = some (.slice ca ds.length cc) ∧ W.cell? ⟨w1.heap.size, 1, none⟩ = some (.int .i64 cop)) (by kernel_rfl) (by first | with_reducible exact dUnhide PK _ hwd | exact dUnhide PK _ (Below.refl _ _) | exact dUnhide PK _ bdr | go_keep) (fun hHeld => ?_)
        have hwd : Below w6.heap.size w6 w6.drew := (Below.refl _ _).drew
        generalize w6.drew = wd at *
        refine wpAnyH_take (i := 0) (oi := { dst := some 44, op := Op.move (Operand.tmp 9), type := 4, pos := "laws.go:946", after := #[], guard := none }) (v := ?_) rfl (by kernel_rfl) (by kernel_rfl) (by kernel_rfl) (fun _ _ _ h => h) (Or.inl ⟨by rfl, ?_⟩) (by assumption) ?_
        rotate_left 1
        · intro w hSw
          (try dsimp only at hSw)
          first | (go_simp; done) | (go_simp; with_reducible rfl)
        try simp only [Act.put, List.setIfInBounds_toArray, List.set_cons_zero, List.set_cons_succ]
        refine wpAnyH_take (i := 1) (oi := { dst := some 45, op := Op.move (Operand.tmp 11), type := 4, pos := "laws.go:946", after := #[], guard := none }) (v := ?_) rfl (by kernel_rfl) (by kernel_rfl) (by kernel_rfl) (fun _ _ _ h => h) (Or.inl ⟨by rfl, ?_⟩) (by assumption) ?_
        rotate_left 1
        · intro w hSw
          (try dsimp only at hSw)
          first | (go_simp; done) | (go_simp; with_reducible rfl)
        try simp only [Act.put, List.setIfInBounds_toArray, List.set_cons_zero, List.set_cons_succ]
        refine wpAnyH_take (i := 2) (oi := { dst := some 46, op := Op.binOp BinOp.neq 4 (Operand.tmp 44) (Operand.tmp 45) 4, type := 4, pos := "laws.go:946", after := #[{ on := 0, ground := Ground.data }, { on := 1, ground := Ground.data }], guard := none }) (v := ?_) rfl (by kernel_rfl) (by kernel_rfl) (by kernel_rfl) (fun _ _ _ h => h) (Or.inl ⟨by rfl, ?_⟩) (by assumption) ?_
        rotate_left 1
        · intro w hSw
          (try dsimp only at hSw)
          first | (go_simp; done) | (go_simp; with_reducible rfl)
        try simp only [Act.put, List.setIfInBounds_toArray, List.set_cons_zero, List.set_cons_succ]
        refine wpAnyH_take (i := 3) (oi := { dst := some 47, op := Op.move (Operand.tmp 46), type := 4, pos := "laws.go:946", after := #[{ on := 2, ground := Ground.data }], guard := none }) (v := ?_) rfl (by kernel_rfl) (by kernel_rfl) (by kernel_rfl) (fun _ _ _ h => h) (Or.inl ⟨by rfl, ?_⟩) (by assumption) ?_
        rotate_left 1
        · intro w hSw
          (try dsimp only at hSw)
          first | (go_simp; done) | (go_simp; with_reducible rfl)
        try simp only [Act.put, List.setIfInBounds_toArray, List.set_cons_zero, List.set_cons_succ]
        refine wpAnyH_take (i := 4) (oi := { dst := some 48, op := Op.load 42 (Operand.tmp 3), type := 42, pos := "laws.go:946", after := #[{ on := 3, ground := Ground.guard }], guard := some (3, false) }) (v := ?_) rfl (by kernel_rfl) (by kernel_rfl) (by kernel_rfl) (fun _ _ _ h => h) (Or.inl ⟨by rfl, ?_⟩) (by assumption) ?_
        rotate_left 1
        · intro w hSw
          (try dsimp only at hSw)
          first | (go_simp; done) | (go_simp; with_reducible rfl)
        try simp only [Act.put, List.setIfInBounds_toArray, List.set_cons_zero, List.set_cons_succ]
        refine wpAnyH_take (i := 5) (oi := { dst := some 49, op := Op.move (Operand.tmp 5), type := 40, pos := "laws.go:946", after := #[{ on := 3, ground := Ground.guard }], guard := some (3, false) }) (v := ?_) rfl (by kernel_rfl) (by kernel_rfl) (by kernel_rfl) (fun _ _ _ h => h) (Or.inl ⟨by rfl, ?_⟩) (by assumption) ?_
        rotate_left 1
        · intro w hSw
          (try dsimp only at hSw)
          first | (go_simp; done) | (go_simp; with_reducible rfl)
        try simp only [Act.put, List.setIfInBounds_toArray, List.set_cons_zero, List.set_cons_succ]
        refine wpAnyH_take (i := 7) (oi := { dst := some 51, op := Op.load 42 (Operand.tmp 3), type := 42, pos := "laws.go:946", after := #[{ on := 3, ground := Ground.guard }], guard := some (3, false) }) (v := ?_) rfl (by kernel_rfl) (by kernel_rfl) (by kernel_rfl) (fun _ _ _ h => h) (Or.inl ⟨by rfl, ?_⟩) (by assumption) ?_
        rotate_left 1
        · intro w hSw
          (try dsimp only at hSw)
          first | (go_simp; done) | (go_simp; with_reducible rfl)
        try simp only [Act.put, List.setIfInBounds_toArray, List.set_cons_zero, List.set_cons_succ]
        refine wpAnyH_take (i := 8) (oi := { dst := some 52, op := Op.move (Operand.tmp 5), type := 40, pos := "laws.go:946", after := #[{ on := 3, ground := Ground.guard }], guard := some (3, false) }) (v := ?_) rfl (by kernel_rfl) (by kernel_rfl) (by kernel_rfl) (fun _ _ _ h => h) (Or.inl ⟨by rfl, ?_⟩) (by assumption) ?_
        rotate_left 1
        · intro w hSw
          (try dsimp only at hSw)
          first | (go_simp; done) | (go_simp; with_reducible rfl)
        try simp only [Act.put, List.setIfInBounds_toArray, List.set_cons_zero, List.set_cons_succ]
        refine wpAnyH_ready (rs := [6]) (by kernel_rfl) (by simp) ?_
        refine AllReadyH.cons (o := { dst := some 50, op := Op.call { callee := Callee.value (Operand.func 21), args := #[Operand.tmp 48, Operand.tmp 49], argTypes := #[42, 40] }, type := 4, pos := "laws.go:946", after := #[{ on := 4, ground := Ground.data }, { on := 5, ground := Ground.data }, { on := 3, ground := Ground.chain }, { on := 3, ground := Ground.guard }], guard := some (3, false) }) rfl (fun K hK => ?_) AllReadyH.nil
        go_simp
        refine (dUnhide CLI _ hwd).mono ?_
        rintro r wn ⟨rfl, bn⟩
        replace hwd := belowThen hwd bn
        clear bn
        generalize wn = wd at *
        (try go_wp2_with fail)
        refine hK.out _ _ (by first | with_reducible exact dUnhide PK _ hwd | exact dUnhide PK _ (Below.refl _ _) | exact dUnhide PK _ bdr | go_keep) (fun hHeld => ?_)
        clear hK K
        try simp only [Act.put, List.setIfInBounds_toArray, List.set_cons_zero, List.set_cons_succ]
        refine wpAnyH_ready (rs := [9]) (by kernel_rfl) (by simp) ?_
        refine AllReadyH.cons (o := { dst := some 53, op := Op.call { callee := Callee.value (Operand.func 22), args := #[Operand.tmp 51, Operand.tmp 52], argTypes := #[42, 40] }, type := 4, pos := "laws.go:946", after := #[{ on := 7, ground := Ground.data }, { on := 8, ground := Ground.data }, { on := 6, ground := Ground.chain }, { on := 3, ground := Ground.guard }], guard := some (3, false) }) rfl (fun K hK => ?_) AllReadyH.nil
        go_simp
        refine (dUnhide CLS _ hwd).mono ?_
        rintro r wn ⟨rfl, bn⟩
        replace hwd := belowThen hwd bn
        clear bn
        generalize wn = wd at *
        (try go_wp2_with fail)
        refine hK.out _ _ (by first | with_reducible exact dUnhide PK _ hwd | exact dUnhide PK _ (Below.refl _ _) | exact dUnhide PK _ bdr | go_keep) (fun hHeld => ?_)
        clear hK K
        try simp only [Act.put, List.setIfInBounds_toArray, List.set_cons_zero, List.set_cons_succ]
        refine wpAnyH_take (i := 10) (oi := { dst := some 54, op := Op.binOp BinOp.neq 4 (Operand.tmp 50) (Operand.tmp 53) 4, type := 4, pos := "laws.go:946", after := #[{ on := 6, ground := Ground.data }, { on := 9, ground := Ground.data }, { on := 3, ground := Ground.guard }], guard := some (3, false) }) (v := ?_) rfl (by kernel_rfl) (by kernel_rfl) (by kernel_rfl) (fun _ _ _ h => h) (Or.inl ⟨by rfl, ?_⟩) (by assumption) ?_
        rotate_left 1
        · intro w hSw
          (try dsimp only at hSw)
          first | (go_simp; done) | (go_simp; with_reducible rfl)
        try simp only [Act.put, List.setIfInBounds_toArray, List.set_cons_zero, List.set_cons_succ]
        refine wpAnyH_take (i := 11) (oi := { dst := some 55, op := Op.pick (Operand.tmp 47) (Operand.const (Value.bool true)) (Operand.tmp 54), type := 4, pos := "laws.go:946", after := #[{ on := 3, ground := Ground.data }, { on := 10, ground := Ground.data }], guard := none }) (v := ?_) rfl (by kernel_rfl) (by kernel_rfl) (by kernel_rfl) (fun _ _ _ h => h) (Or.inl ⟨by rfl, ?_⟩) (by assumption) ?_
        rotate_left 1
        · intro w hSw
          (try dsimp only at hSw)
          first | (go_simp; done) | (go_simp; with_reducible rfl)
        try simp only [Act.put, List.setIfInBounds_toArray, List.set_cons_zero, List.set_cons_succ]
        refine wpAnyH_done (by kernel_rfl) ?_ _
        refine NoPanic.normal ?_
        go_wp2_with fail
        go_meet
        case rel => exact ⟨rfl, hwd⟩
  case rest =>
    obtain ⟨rfl, bc⟩ := hcut
    generalize wc = w7 at *
    clear y0 y1 bdr CLI CLS PK
    have X7 := X6.below bc
    have N7 := N6.below bc
    have B7 := belowThen B6 bc
    have n0 := N7 0 _ rfl
    have n1 := N7 1 _ rfl
    have n2 := N7 2 _ rfl
    cases mb
    · obtain rfl := dUnhide TF m rfl
      clear TT TF HKL HV6 HK6 CH CW O6
      simp only [List.length_nil] at *
      go_wp2
      go_ret
      exact ⟨rfl, B7⟩
    · obtain ⟨hmr, hml, hmx, hmo, hmk⟩ := dUnhide TT m rfl
      clear TT TF
      have HL := dHide hml
      have HX := dHide hmx
      have HK := dHide hmk
      have CK := dHide fun W (hb : Below w6.heap.size w6 W) => (implStoreOk_any _ m W (O6.below hb).rs (stP_fit hmr)).mono fun e w' h => (⟨h.1.of_yes hmr, h.2⟩ : e = .returned (.bool true) ∧ Below W.heap.size W w')
      have CG0 := dHide fun y W (hb : Below w6.heap.size w6 W) => implGet_any _ m y W (O6.below hb).rs (stP_fit hmr)
      have CHN := dHide fun W (hb : Below w6.heap.size w6 W) => (dUnhide CH W hb).mono fun e w' h => (⟨h.1.of_no hmo.2, h.2⟩ : e = .returned (.bool false) ∧ Below W.heap.size W w')
      clear hmr hml hmx hmo hmk O6 CH n0 n1 n2
      go_wp2
      go_loopw [12] (fun xv wr => ∃ i : Nat, xv = .int .i64 (i : Int) ∧ i ≤ rs.length ∧ Below w6.heap.size w6 wr) (fun xv _ => rs.length - (intOf xv).toNat)
      case atStart => exact ⟨0, rfl, Nat.zero_le _, bc⟩
      case round =>
        obtain ⟨i, rfl, hi, hbi⟩ := hrel
        by_cases hlti : (i : Int) < (rs.length : Int)
        · have hil : i < rs.length := by omega
          obtain ⟨sb, so, rfl, -⟩ := (dUnhide HV6 wr hbi).ps hil
          have HC0 : Hid (∀ W, Below w6.heap.size w6 W → W.cell? ⟨sb, so + i * 3, none⟩ = some (.slice rs[i].ka rs[i].m.kept.length rs[i].kc)) := fun W hB => by
            obtain ⟨b', off', e', hc'⟩ := (dUnhide HV6 W hB).ps hil
            cases e'
            exact (hc' i hil).1
          have HKi := dHide fun W (hB : Below w6.heap.size w6 W) => dUnhide HK6 i hil W hB
          have hkl3 := dUnhide HKL i hil
          have HKK := dHide (dUnhide HK i hil)
          generalize rs[i] = y at *
          obtain ⟨ya, yc, za, zc, es, lts, lk⟩ := y
          simp only at *
          go_wp2
          go_loopw [13] (fun xv wr => ∃ k : Nat, xv = .int .i64 (k : Int) ∧ k ≤ es.length ∧ Below w6.heap.size w6 wr) (fun xv _ => es.length - (intOf xv).toNat)
          case atStart => exact ⟨0, rfl, Nat.zero_le _, hbi⟩
          case round =>
            clear hbi
            obtain ⟨k, rfl, hk, hb⟩ := hrel
            have cc0 := dUnhide HC0 wr hb
            by_cases hlt : (k : Int) < (es.length : Int)
            · have hkl : k < es.length := by omega
              have hdk : decide ((k : Int) < (es.length : Int)) = true := decide_eq_true hlt
              have CWi := dHide (dUnhide CW (i : Int) wr hb)
              go_wp2_with fail
              refine (dUnhide CWi).mono ?_
              rintro r wq ⟨⟨b5, rfl, h5⟩, rfl⟩
              clear CWi
              cases b5
              · have hni : ¬ (i : Int) ∈ ls := fun h => by have := h5.2 h; cases this
                have HOk := dHide (dUnhide HKK hni _ (List.getElem_mem hkl))
                clear h5 hni
                obtain ⟨nb, no, rfl, -⟩ := (dUnhide HKi wq hb).ent hkl
                have HXC := dHide fun W (hB : Below wq.heap.size wq W) => by
                  obtain ⟨nb', no', e', hc'⟩ := (dUnhide HKi W (belowThen hb hB)).ent hkl
                  cases e'
                  exact hc' k hkl
                have CG1 := dHide fun W (hB : Below wq.heap.size wq W) => dUnhide CG0 es[k].pl W (belowThen hb hB)
                generalize es[k] = x at *
                have X8 := X6.below hb
                have N8 := N6.below hb
                have PP : Hid (∀ W, Below wq.heap.size wq W → (W.cell? ⟨bn, 0, none⟩ = some (.slice k3 m.kept.length c3) ∧ W.cell? ⟨bn, 1, none⟩ = some (.slice l3 m.late.length d3) ∧ W.cell? ⟨bn, 2, none⟩ = some (.int .i64 m.lock)) ∧ W.cell? ⟨sb, so + i * 3, none⟩ = some (.slice (some ⟨nb, no, none⟩) es.length yc) ∧ W.cell? ⟨nb, no + k * 4, none⟩ = some (.int .i64 x.pl)) := fun W hB => ⟨⟨(N8.below hB) 0 _ rfl, (N8.below hB) 1 _ rfl, (N8.below hB) 2 _ rfl⟩, dUnhide HC0 W (belowThen hb hB), (dUnhide HXC W hB).1⟩
                obtain ⟨⟨q0, q1, q2⟩, q3, q4⟩ := dUnhide PP wq (Below.refl _ _)
                have bdr : Below wq.heap.size wq wq.drew := (Below.refl _ _).drew
                obtain ⟨ge, gb, hG1, hG2⟩ := findT_exF (getM m x.pl)
                obtain ⟨oo, ho, how⟩ := dUnhide HOk
                obtain ⟨rfl, rfl⟩ := hG2 oo ho
                have hdx : decide (ge.wave < x.wave) = false := decide_eq_false (by omega)
                have CG : Hid (∀ W, Below wq.heap.size wq W → Calls Try.prog 12 #[.agg #[.slice k3 m.kept.length c3, .slice l3 m.late.length d3, .int .i64 m.lock], .int .i64 x.pl] W fun r w' => r = .returned (.tuple #[.agg #[.int .i64 ge.pl, .int .i64 ge.wave, .bool ge.hole, .string ge.data], .bool true]) ∧ Below W.heap.size W w') := fun W hB => by have q := dUnhide CG1 W hB; rw [hG1] at q; exact q
                clear CG1 hG1 hG2 ho how HOk
                go_wp2_with fail
                generalize hwr : wq = wr at *
                go_cut [14, 15] (fun s10 s11 wx => ∃ b1, s10 = .pointer (some ⟨b1, 0, none⟩) ∧ s11 = .bool true ∧ Bx wx b1 [.int .i64 ge.pl, .int .i64 ge.wave, .bool ge.hole, .string ge.data] ∧ Below wr.heap.size wr wx)
                case first =>
                  refine wp_region_noPanic ?_
                  refine wp_region_held_drew (S := fun W => (W.cell? ⟨bn, 0, none⟩ = some (.slice k3 m.kept.length c3) ∧ W.cell? ⟨bn, 1, none⟩ = some (.slice l3 m.late.length d3) ∧ W.cell? ⟨bn, 2, none⟩ = some (.int .i64 m.lock)) ∧ W.cell? ⟨sb, so + i * 3, none⟩ = some (.slice (some ⟨nb, no, none⟩) es.length yc) ∧ W.cell? ⟨nb, no + k * 4, none⟩ = some (.int .i64 x.pl)) (by kernel_rfl) (by first | with_reducible exact dUnhide PP _ hwd | exact dUnhide PP _ (Below.refl _ _) | exact dUnhide PP _ bdr | go_keep) (fun hHeld => ?_)
                  have hwd : Below wr.heap.size wr wr.drew := (Below.refl _ _).drew
                  generalize wr.drew = wd at *
                  refine wpAnyH_take (i := 0) (oi := { dst := some 90, op := Op.load 26 (Operand.tmp 8), type := 26, pos := "laws.go:954", after := #[], guard := none }) (v := ?_) rfl (by kernel_rfl) (by kernel_rfl) (by kernel_rfl) (fun _ _ _ h => h) (Or.inl ⟨by rfl, ?_⟩) (by assumption) ?_
                  rotate_left 1
                  · intro w hSw
                    (try dsimp only at hSw)
                    first | (go_simp; done) | (go_simp; with_reducible rfl)
                  try simp only [Act.put, List.setIfInBounds_toArray, List.set_cons_zero, List.set_cons_succ]
                  refine wpAnyH_take (i := 1) (oi := { dst := some 91, op := Op.move (Operand.tmp 4), type := 43, pos := "laws.go:954", after := #[], guard := none }) (v := ?_) rfl (by kernel_rfl) (by kernel_rfl) (by kernel_rfl) (fun _ _ _ h => h) (Or.inl ⟨by rfl, ?_⟩) (by assumption) ?_
                  rotate_left 1
                  · intro w hSw
                    (try dsimp only at hSw)
                    first | (go_simp; done) | (go_simp; with_reducible rfl)
                  try simp only [Act.put, List.setIfInBounds_toArray, List.set_cons_zero, List.set_cons_succ]
                  refine wpAnyH_take (i := 2) (oi := { dst := some 92, op := Op.move (Operand.tmp 12), type := 3, pos := "laws.go:954", after := #[], guard := none }) (v := ?_) rfl (by kernel_rfl) (by kernel_rfl) (by kernel_rfl) (fun _ _ _ h => h) (Or.inl ⟨by rfl, ?_⟩) (by assumption) ?_
                  rotate_left 1
                  · intro w hSw
                    (try dsimp only at hSw)
                    first | (go_simp; done) | (go_simp; with_reducible rfl)
                  try simp only [Act.put, List.setIfInBounds_toArray, List.set_cons_zero, List.set_cons_succ]
                  refine wpAnyH_take (i := 3) (oi := { dst := some 93, op := Op.indexAddr 43 (Operand.tmp 91) (Operand.tmp 92), type := 0, pos := "laws.go:954", after := #[{ on := 1, ground := Ground.data }, { on := 2, ground := Ground.data }], guard := none }) (v := ?_) rfl (by kernel_rfl) (by kernel_rfl) (by kernel_rfl) (fun _ _ _ h => h) (Or.inl ⟨by rfl, ?_⟩) (by assumption) ?_
                  rotate_left 1
                  · intro w hSw
                    (try dsimp only at hSw)
                    first | (go_simp; done) | (go_simp; with_reducible rfl)
                  try simp only [Act.put, List.setIfInBounds_toArray, List.set_cons_zero, List.set_cons_succ]
                  refine wpAnyH_take (i := 4) (oi := { dst := some 94, op := Op.fieldAddr 26 (Operand.tmp 93) 0, type := 0, pos := "laws.go:954", after := #[{ on := 3, ground := Ground.data }], guard := none }) (v := ?_) rfl (by kernel_rfl) (by kernel_rfl) (by kernel_rfl) (fun _ _ _ h => h) (Or.inl ⟨by rfl, ?_⟩) (by assumption) ?_
                  rotate_left 1
                  · intro w hSw
                    (try dsimp only at hSw)
                    first | (go_simp; done) | (go_simp; with_reducible rfl)
                  try simp only [Act.put, List.setIfInBounds_toArray, List.set_cons_zero, List.set_cons_succ]
                  refine wpAnyH_take (i := 5) (oi := { dst := some 95, op := Op.load 24 (Operand.tmp 94), type := 24, pos := "laws.go:954", after := #[{ on := 4, ground := Ground.data }], guard := none }) (v := ?_) rfl (by kernel_rfl) (by kernel_rfl) (by kernel_rfl) (fun _ _ _ h => h) (Or.inl ⟨by rfl, ?_⟩) (by assumption) ?_
                  rotate_left 1
                  · intro w hSw
                    (try dsimp only at hSw)
                    first | (go_simp; done) | (go_simp; with_reducible rfl)
                  try simp only [Act.put, List.setIfInBounds_toArray, List.set_cons_zero, List.set_cons_succ]
                  refine wpAnyH_take (i := 6) (oi := { dst := some 96, op := Op.move (Operand.tmp 13), type := 3, pos := "laws.go:954", after := #[], guard := none }) (v := ?_) rfl (by kernel_rfl) (by kernel_rfl) (by kernel_rfl) (fun _ _ _ h => h) (Or.inl ⟨by rfl, ?_⟩) (by assumption) ?_
                  rotate_left 1
                  · intro w hSw
                    (try dsimp only at hSw)
                    first | (go_simp; done) | (go_simp; with_reducible rfl)
                  try simp only [Act.put, List.setIfInBounds_toArray, List.set_cons_zero, List.set_cons_succ]
                  refine wpAnyH_take (i := 7) (oi := { dst := some 97, op := Op.indexAddr 24 (Operand.tmp 95) (Operand.tmp 96), type := 0, pos := "laws.go:954", after := #[{ on := 5, ground := Ground.data }, { on := 6, ground := Ground.data }], guard := none }) (v := ?_) rfl (by kernel_rfl) (by kernel_rfl) (by kernel_rfl) (fun _ _ _ h => h) (Or.inl ⟨by rfl, ?_⟩) (by assumption) ?_
                  rotate_left 1
                  · intro w hSw
                    (try dsimp only at hSw)
                    first | (go_simp; done) | (go_simp; with_reducible rfl)
                  try simp only [Act.put, List.setIfInBounds_toArray, List.set_cons_zero, List.set_cons_succ]
                  refine wpAnyH_take (i := 8) (oi := { dst := some 98, op := Op.fieldAddr 28 (Operand.tmp 97) 0, type := 0, pos := "laws.go:954", after := #[{ on := 7, ground := Ground.data }], guard := none }) (v := ?_) rfl (by kernel_rfl) (by kernel_rfl) (by kernel_rfl) (fun _ _ _ h => h) (Or.inl ⟨by rfl, ?_⟩) (by assumption) ?_
                  rotate_left 1
                  · intro w hSw
                    (try dsimp only at hSw)
                    first | (go_simp; done) | (go_simp; with_reducible rfl)
                  try simp only [Act.put, List.setIfInBounds_toArray, List.set_cons_zero, List.set_cons_succ]
                  refine wpAnyH_take (i := 9) (oi := { dst := some 99, op := Op.load 3 (Operand.tmp 98), type := 3, pos := "laws.go:954", after := #[{ on := 8, ground := Ground.data }], guard := none }) (v := ?_) rfl (by kernel_rfl) (by kernel_rfl) (by kernel_rfl) (fun _ _ _ h => h) (Or.inl ⟨by rfl, ?_⟩) (by assumption) ?_
                  rotate_left 1
                  · intro w hSw
                    (try dsimp only at hSw)
                    first | (go_simp; done) | (go_simp; with_reducible rfl)
                  try simp only [Act.put, List.setIfInBounds_toArray, List.set_cons_zero, List.set_cons_succ]
                  refine wpAnyH_ready (rs := [10, 14]) (by kernel_rfl) (by simp) ?_
                  refine AllReadyH.cons (o := { dst := some 100, op := Op.call { callee := Callee.value (Operand.func 12), args := #[Operand.tmp 90, Operand.tmp 99], argTypes := #[26, 3] }, type := 35, pos := "laws.go:954", after := #[{ on := 0, ground := Ground.data }, { on := 9, ground := Ground.data }], guard := none }) rfl (fun K hK => ?_) (AllReadyH.cons (o := { dst := some 14, op := Op.alloc 28, type := 0, pos := "laws.go:954", after := #[], guard := none }) rfl (fun K hK => ?_) AllReadyH.nil)
                  · go_simp
                    refine (dUnhide CG _ hwd).mono ?_
                    rintro r wn ⟨rfl, bn⟩
                    try replace N1 := N1.below bn
                    try (replace lt1 : b1 < wn.heap.size := by have := bn.size; omega)
                    replace hwd := belowThen hwd bn
                    clear bn
                    generalize wn = wd at *
                    (try go_wp2_with fail)
                    refine hK.out _ _ (by first | with_reducible exact dUnhide PP _ hwd | exact dUnhide PP _ (Below.refl _ _) | exact dUnhide PP _ bdr | go_keep) (fun hHeld => ?_)
                    clear hK K
                    try simp only [Act.put, List.setIfInBounds_toArray, List.set_cons_zero, List.set_cons_succ]
                    refine wpAnyH_take (i := 11) (oi := { dst := some 89, op := Op.move (Operand.tmp 100), type := 35, pos := "laws.go:954", after := #[{ on := 10, ground := Ground.data }], guard := none }) (v := ?_) rfl (by kernel_rfl) (by kernel_rfl) (by kernel_rfl) (fun _ _ _ h => h) (Or.inl ⟨by rfl, ?_⟩) (by assumption) ?_
                    rotate_left 1
                    · intro w hSw
                      (try dsimp only at hSw)
                      first | (go_simp; done) | (go_simp; with_reducible rfl)
                    try simp only [Act.put, List.setIfInBounds_toArray, List.set_cons_zero, List.set_cons_succ]
                    refine wpAnyH_take (i := 12) (oi := { dst := some 101, op := Op.extract (Operand.tmp 89) 0, type := 28, pos := "laws.go:954", after := #[{ on := 11, ground := Ground.data }], guard := none }) (v := ?_) rfl (by kernel_rfl) (by kernel_rfl) (by kernel_rfl) (fun _ _ _ h => h) (Or.inl ⟨by rfl, ?_⟩) (by assumption) ?_
                    rotate_left 1
                    · intro w hSw
                      (try dsimp only at hSw)
                      first | (go_simp; done) | (go_simp; with_reducible rfl)
                    try simp only [Act.put, List.setIfInBounds_toArray, List.set_cons_zero, List.set_cons_succ]
                    refine wpAnyH_take (i := 13) (oi := { dst := some 102, op := Op.extract (Operand.tmp 89) 1, type := 4, pos := "laws.go:954", after := #[{ on := 11, ground := Ground.data }, { on := 15, ground := Ground.gcOnly Departure.lateStores }], guard := none }) (v := ?_) rfl (by kernel_rfl) (by kernel_rfl) (by kernel_rfl) (fun _ _ _ h => h) (Or.inl ⟨by rfl, ?_⟩) (by assumption) ?_
                    rotate_left 1
                    · intro w hSw
                      (try dsimp only at hSw)
                      first | (go_simp; done) | (go_simp; with_reducible rfl)
                    try simp only [Act.put, List.setIfInBounds_toArray, List.set_cons_zero, List.set_cons_succ]
                    refine wpAnyH_ready (rs := [14]) (by kernel_rfl) (by simp) ?_
                    refine AllReadyH.cons (o := { dst := some 14, op := Op.alloc 28, type := 0, pos := "laws.go:954", after := #[], guard := none }) rfl (fun K hK => ?_) AllReadyH.nil
                    go_simp
                    have N1 := BxZ.new (B := 0) wd [.int .i64 0, .int .i64 0, .bool false, .string ⟨#[]⟩] 28 (Nat.zero_le _)
                    have es : (wd.alloc (.cells #[.int .i64 0, .int .i64 0, .bool false, .string ⟨#[]⟩] 28)).heap.size = wd.heap.size + 1 := by simp
                    have ln1 : wr.heap.size ≤ wd.heap.size := hwd.size
                    replace hwd := belowThen hwd (ba wd (.cells #[.int .i64 0, .int .i64 0, .bool false, .string ⟨#[]⟩] 28))
                    have lt1 : wd.heap.size < (wd.alloc (.cells #[.int .i64 0, .int .i64 0, .bool false, .string ⟨#[]⟩] 28)).heap.size := by omega
                    clear es
                    generalize wd.heap.size = b1 at *
                    generalize wd.alloc (.cells #[.int .i64 0, .int .i64 0, .bool false, .string ⟨#[]⟩] 28) = wd at *
                    refine hK.out _ _ (by first | with_reducible exact dUnhide PP _ hwd | exact dUnhide PP _ (Below.refl _ _) | exact dUnhide PP _ bdr | go_keep) (fun hHeld => ?_)
                    clear hK K
                    try simp only [Act.put, List.setIfInBounds_toArray, List.set_cons_zero, List.set_cons_succ]
                    refine wpAnyH_ready (rs := [15]) (by kernel_rfl) (by simp) ?_
                    refine AllReadyH.cons (o := { dst := none, op := Op.store 28 (Operand.tmp 14) (Operand.tmp 101), type := 0, pos := "laws.go:954", after := #[{ on := 14, ground := Ground.data }, { on := 12, ground := Ground.data }, { on := 10, ground := Ground.chain }, { on := 0, ground := Ground.phase }, { on := 1, ground := Ground.phase }, { on := 2, ground := Ground.phase }, { on := 3, ground := Ground.phase }, { on := 4, ground := Ground.phase }, { on := 5, ground := Ground.phase }, { on := 6, ground := Ground.phase }, { on := 7, ground := Ground.phase }, { on := 8, ground := Ground.phase }, { on := 9, ground := Ground.phase }, { on := 10, ground := Ground.phase }, { on := 11, ground := Ground.phase }, { on := 12, ground := Ground.phase }, { on := 13, ground := Ground.textOnly Departure.lateStores }, { on := 14, ground := Ground.phase }], guard := none }) rfl (fun K hK => ?_) AllReadyH.nil
                    obtain ⟨g0, h0⟩ := N1.2 0 _ rfl
                    obtain ⟨g1, h1⟩ := N1.2 1 _ rfl
                    obtain ⟨g2, h2⟩ := N1.2 2 _ rfl
                    obtain ⟨g3, h3⟩ := N1.2 3 _ rfl
                    go_simp
                    have M1 := (((N1.put 0 (.int .i64 ge.pl)).put 1 (.int .i64 ge.wave)).put 2 (.bool ge.hole)).put 3 (.string ge.data)
                    replace hwd := (((hwd.setCell (p := ⟨b1, 0, none⟩) ln1 (.int .i64 ge.pl)).setCell (p := ⟨b1, 1, none⟩) ln1 (.int .i64 ge.wave)).setCell (p := ⟨b1, 2, none⟩) ln1 (.bool ge.hole)).setCell (p := ⟨b1, 3, none⟩) ln1 (.string ge.data)
                    clear g0 g1 g2 g3 h0 h1 h2 h3
                    generalize (((wd.setCell ⟨b1, 0, none⟩ (.int .i64 ge.pl)).setCell ⟨b1, 1, none⟩ (.int .i64 ge.wave)).setCell ⟨b1, 2, none⟩ (.bool ge.hole)).setCell ⟨b1, 3, none⟩ (.string ge.data) = wd at *
                    refine hK.out _ _ (by first | with_reducible exact dUnhide PP _ hwd | exact dUnhide PP _ (Below.refl _ _) | exact dUnhide PP _ bdr | go_keep) (fun hHeld => ?_)
                    clear hK K
                    try simp only [Act.put, List.setIfInBounds_toArray, List.set_cons_zero, List.set_cons_succ]
                    refine wpAnyH_take (i := 16) (oi := { dst := some 15, op := Op.assign (Operand.tmp 102), type := 4, pos := "laws.go:954", after := #[{ on := 13, ground := Ground.data }, { on := 15, ground := Ground.chain }, { on := 0, ground := Ground.phase }, { on := 1, ground := Ground.phase }, { on := 2, ground := Ground.phase }, { on := 3, ground := Ground.phase }, { on := 4, ground := Ground.phase }, { on := 5, ground := Ground.phase }, { on := 6, ground := Ground.phase }, { on := 7, ground := Ground.phase }, { on := 8, ground := Ground.phase }, { on := 9, ground := Ground.phase }, { on := 10, ground := Ground.phase }, { on := 11, ground := Ground.phase }, { on := 12, ground := Ground.phase }, { on := 13, ground := Ground.phase }, { on := 14, ground := Ground.phase }, { on := 15, ground := Ground.phase }], guard := none }) (v := ?_) rfl (by kernel_rfl) (by kernel_rfl) (by kernel_rfl) (fun _ _ _ h => h) (Or.inl ⟨by rfl, ?_⟩) (by assumption) ?_
                    rotate_left 1
                    · intro w hSw
                      (try dsimp only at hSw)
                      first | (go_simp; done) | (go_simp; with_reducible rfl)
                    try simp only [Act.put, List.setIfInBounds_toArray, List.set_cons_zero, List.set_cons_succ]
                    refine wpAnyH_done (by kernel_rfl) ?_ _
                    refine NoPanic.normal ?_
                    go_wp2_with fail
                    go_meet
                    case rel => exact ⟨b1, rfl, rfl, M1.bx, hwd⟩
                  · go_simp
                    have N1 := BxZ.new (B := 0) wd [.int .i64 0, .int .i64 0, .bool false, .string ⟨#[]⟩] 28 (Nat.zero_le _)
                    have es : (wd.alloc (.cells #[.int .i64 0, .int .i64 0, .bool false, .string ⟨#[]⟩] 28)).heap.size = wd.heap.size + 1 := by simp
                    have ln1 : wr.heap.size ≤ wd.heap.size := hwd.size
                    replace hwd := belowThen hwd (ba wd (.cells #[.int .i64 0, .int .i64 0, .bool false, .string ⟨#[]⟩] 28))
                    have lt1 : wd.heap.size < (wd.alloc (.cells #[.int .i64 0, .int .i64 0, .bool false, .string ⟨#[]⟩] 28)).heap.size := by omega
                    clear es
                    generalize wd.heap.size = b1 at *
                    generalize wd.alloc (.cells #[.int .i64 0, .int .i64 0, .bool false, .string ⟨#[]⟩] 28) = wd at *
                    refine hK.out _ _ (by first | with_reducible exact dUnhide PP _ hwd | exact dUnhide PP _ (Below.refl _ _) | exact dUnhide PP _ bdr | go_keep) (fun hHeld => ?_)
                    clear hK K
                    try simp only [Act.put, List.setIfInBounds_toArray, List.set_cons_zero, List.set_cons_succ]
                    refine wpAnyH_ready (rs := [10]) (by kernel_rfl) (by simp) ?_
                    refine AllReadyH.cons (o := { dst := some 100, op := Op.call { callee := Callee.value (Operand.func 12), args := #[Operand.tmp 90, Operand.tmp 99], argTypes := #[26, 3] }, type := 35, pos := "laws.go:954", after := #[{ on := 0, ground := Ground.data }, { on := 9, ground := Ground.data }], guard := none }) rfl (fun K hK => ?_) AllReadyH.nil
                    go_simp
                    refine (dUnhide CG _ hwd).mono ?_
                    rintro r wn ⟨rfl, bn⟩
                    try replace N1 := N1.below bn
                    try (replace lt1 : b1 < wn.heap.size := by have := bn.size; omega)
                    replace hwd := belowThen hwd bn
                    clear bn
                    generalize wn = wd at *
                    (try go_wp2_with fail)
                    refine hK.out _ _ (by first | with_reducible exact dUnhide PP _ hwd | exact dUnhide PP _ (Below.refl _ _) | exact dUnhide PP _ bdr | go_keep) (fun hHeld => ?_)
                    clear hK K
                    try simp only [Act.put, List.setIfInBounds_toArray, List.set_cons_zero, List.set_cons_succ]
                    refine wpAnyH_take (i := 11) (oi := { dst := some 89, op := Op.move (Operand.tmp 100), type := 35, pos := "laws.go:954", after := #[{ on := 10, ground := Ground.data }], guard := none }) (v := ?_) rfl (by kernel_rfl) (by kernel_rfl) (by kernel_rfl) (fun _ _ _ h => h) (Or.inl ⟨by rfl, ?_⟩) (by assumption) ?_
                    rotate_left 1
                    · intro w hSw
                      (try dsimp only at hSw)
                      first | (go_simp; done) | (go_simp; with_reducible rfl)
                    try simp only [Act.put, List.setIfInBounds_toArray, List.set_cons_zero, List.set_cons_succ]
                    refine wpAnyH_take (i := 12) (oi := { dst := some 101, op := Op.extract (Operand.tmp 89) 0, type := 28, pos := "laws.go:954", after := #[{ on := 11, ground := Ground.data }], guard := none }) (v := ?_) rfl (by kernel_rfl) (by kernel_rfl) (by kernel_rfl) (fun _ _ _ h => h) (Or.inl ⟨by rfl, ?_⟩) (by assumption) ?_
                    rotate_left 1
                    · intro w hSw
                      (try dsimp only at hSw)
                      first | (go_simp; done) | (go_simp; with_reducible rfl)
                    try simp only [Act.put, List.setIfInBounds_toArray, List.set_cons_zero, List.set_cons_succ]
                    refine wpAnyH_take (i := 13) (oi := { dst := some 102, op := Op.extract (Operand.tmp 89) 1, type := 4, pos := "laws.go:954", after := #[{ on := 11, ground := Ground.data }, { on := 15, ground := Ground.gcOnly Departure.lateStores }], guard := none }) (v := ?_) rfl (by kernel_rfl) (by kernel_rfl) (by kernel_rfl) (fun _ _ _ h => h) (Or.inl ⟨by rfl, ?_⟩) (by assumption) ?_
                    rotate_left 1
                    · intro w hSw
                      (try dsimp only at hSw)
                      first | (go_simp; done) | (go_simp; with_reducible rfl)
                    try simp only [Act.put, List.setIfInBounds_toArray, List.set_cons_zero, List.set_cons_succ]
                    refine wpAnyH_ready (rs := [15]) (by kernel_rfl) (by simp) ?_
                    refine AllReadyH.cons (o := { dst := none, op := Op.store 28 (Operand.tmp 14) (Operand.tmp 101), type := 0, pos := "laws.go:954", after := #[{ on := 14, ground := Ground.data }, { on := 12, ground := Ground.data }, { on := 10, ground := Ground.chain }, { on := 0, ground := Ground.phase }, { on := 1, ground := Ground.phase }, { on := 2, ground := Ground.phase }, { on := 3, ground := Ground.phase }, { on := 4, ground := Ground.phase }, { on := 5, ground := Ground.phase }, { on := 6, ground := Ground.phase }, { on := 7, ground := Ground.phase }, { on := 8, ground := Ground.phase }, { on := 9, ground := Ground.phase }, { on := 10, ground := Ground.phase }, { on := 11, ground := Ground.phase }, { on := 12, ground := Ground.phase }, { on := 13, ground := Ground.textOnly Departure.lateStores }, { on := 14, ground := Ground.phase }], guard := none }) rfl (fun K hK => ?_) AllReadyH.nil
                    obtain ⟨g0, h0⟩ := N1.2 0 _ rfl
                    obtain ⟨g1, h1⟩ := N1.2 1 _ rfl
                    obtain ⟨g2, h2⟩ := N1.2 2 _ rfl
                    obtain ⟨g3, h3⟩ := N1.2 3 _ rfl
                    go_simp
                    have M1 := (((N1.put 0 (.int .i64 ge.pl)).put 1 (.int .i64 ge.wave)).put 2 (.bool ge.hole)).put 3 (.string ge.data)
                    replace hwd := (((hwd.setCell (p := ⟨b1, 0, none⟩) ln1 (.int .i64 ge.pl)).setCell (p := ⟨b1, 1, none⟩) ln1 (.int .i64 ge.wave)).setCell (p := ⟨b1, 2, none⟩) ln1 (.bool ge.hole)).setCell (p := ⟨b1, 3, none⟩) ln1 (.string ge.data)
                    clear g0 g1 g2 g3 h0 h1 h2 h3
                    generalize (((wd.setCell ⟨b1, 0, none⟩ (.int .i64 ge.pl)).setCell ⟨b1, 1, none⟩ (.int .i64 ge.wave)).setCell ⟨b1, 2, none⟩ (.bool ge.hole)).setCell ⟨b1, 3, none⟩ (.string ge.data) = wd at *
                    refine hK.out _ _ (by first | with_reducible exact dUnhide PP _ hwd | exact dUnhide PP _ (Below.refl _ _) | exact dUnhide PP _ bdr | go_keep) (fun hHeld => ?_)
                    clear hK K
                    try simp only [Act.put, List.setIfInBounds_toArray, List.set_cons_zero, List.set_cons_succ]
                    refine wpAnyH_take (i := 16) (oi := { dst := some 15, op := Op.assign (Operand.tmp 102), type := 4, pos := "laws.go:954", after := #[{ on := 13, ground := Ground.data }, { on := 15, ground := Ground.chain }, { on := 0, ground := Ground.phase }, { on := 1, ground := Ground.phase }, { on := 2, ground := Ground.phase }, { on := 3, ground := Ground.phase }, { on := 4, ground := Ground.phase }, { on := 5, ground := Ground.phase }, { on := 6, ground := Ground.phase }, { on := 7, ground := Ground.phase }, { on := 8, ground := Ground.phase }, { on := 9, ground := Ground.phase }, { on := 10, ground := Ground.phase }, { on := 11, ground := Ground.phase }, { on := 12, ground := Ground.phase }, { on := 13, ground := Ground.phase }, { on := 14, ground := Ground.phase }, { on := 15, ground := Ground.phase }], guard := none }) (v := ?_) rfl (by kernel_rfl) (by kernel_rfl) (by kernel_rfl) (fun _ _ _ h => h) (Or.inl ⟨by rfl, ?_⟩) (by assumption) ?_
                    rotate_left 1
                    · intro w hSw
                      (try dsimp only at hSw)
                      first | (go_simp; done) | (go_simp; with_reducible rfl)
                    try simp only [Act.put, List.setIfInBounds_toArray, List.set_cons_zero, List.set_cons_succ]
                    refine wpAnyH_done (by kernel_rfl) ?_ _
                    refine NoPanic.normal ?_
                    go_wp2_with fail
                    go_meet
                    case rel => exact ⟨b1, rfl, rfl, M1.bx, hwd⟩
                case rest =>
                  obtain ⟨b1, rfl, rfl, M1, bx7⟩ := hcut
                  generalize wc = wx at *
                  clear q0 q1 q2 q3 q4
                  obtain ⟨-, q3, -⟩ := dUnhide PP wx bx7
                  obtain ⟨u0, u1, u2, u3⟩ := dUnhide HXC wx bx7
                  have s1 := M1 1 _ rfl
                  have hbw := belowThen hb bx7
                  clear CG bdr M1 PP HXC bx7
                  go_wp2
                  go_quiet (fail)
                  go_wp2
                  go_roundw
                  case rel => exact ⟨k + 1, by go_num, by omega, below_drewN hbw _⟩
                  case measure => simp [intOf]; omega
              · clear h5
                go_wp2
                go_roundw
                case rel => exact ⟨i + 1, by go_num, by omega, hb⟩
                case measure => simp [intOf]; omega
            · have hdk : decide ((k : Int) < (es.length : Int)) = false := decide_eq_false hlt
              go_wp2
              go_roundw
              case rel => exact ⟨i + 1, by go_num, by omega, hb⟩
              case measure => simp [intOf]; omega
        · have hl0 : m.late.length = 0 := by rw [dUnhide HL]; rfl
          have B8 := belowThen B6 hbi
          have X8 := X6.below hbi
          have N8 := N6.below hbi
          have n0 := N8 0 _ rfl
          have n1 := N8 1 _ rfl
          have n2 := N8 2 _ rfl
          have CK7 := dHide (dUnhide CK wr hbi)
          have CHN7 := dHide fun W (hb : Below wr.heap.size wr W) => dUnhide CHN W (belowThen hbi hb)
          rw [hl0] at n1 CK7
          rw [dUnhide HX] at n2 CK7
          clear hl0 HL HX HK CG0 CK CHN X7 N7 X6 N6
          go_wp2_with fail
          refine (dUnhide CK7).mono ?_
          rintro r w9 ⟨rfl, b9⟩
          have X9 := X8.below b9
          have e0 := X9 0 _ rfl
          have e1 := X9 1 _ rfl
          have B9 := belowThen B8 b9
          have CH9 := dHide (dUnhide CHN7 w9 b9)
          clear CK7 CHN7 b9 n0 n1 n2 X8 N8
          go_wp2_with fail
          refine (dUnhide CH9).mono ?_
          rintro r w10 ⟨rfl, b10⟩
          have B10 := belowThen B9 b10
          clear CH9 b10
          go_wp2
          go_ret
          exact ⟨rfl, B10⟩
end Go.Proofs.Ytejmfohkobhidaa
