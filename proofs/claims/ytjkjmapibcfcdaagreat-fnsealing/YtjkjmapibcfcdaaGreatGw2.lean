/- Several texts in one: CpN, RmP, Q9O. -/
import Derived.Test.YtjkjmapibcfcdaaGreatGaB
import Derived.Lib.SliceRun
import Derived.Deep.RegionHeld3
import Derived.Deep.DeepCutAuto
import Derived.Test.YtjkjmapibcfcdaaGreatMnB
import Derived.Test.YtjkjmapibcfcdaaGreatMnG
namespace Go.Proofs.YtjkjmapibcfcdaaGreat
open Go.ChangeShapes Go.WideShapes Go.ChangeAt Go.RowKit
set_option linter.unnecessarySimpa false
set_option linter.unusedSimpArgs false
set_option linter.unusedVariables false
set_option maxRecDepth 100000
theorem elemN : Elem (α := Int) 3 24 (.int .i64 0) 1 8 (fun x => [.int .i64 x]) where
 under := Tryz.underlying24
 info := by kernel_rfl
 zcells := by kernel_rfl
 pos := by decide
 len := fun _ => rfl
 one := fun a u hu => by simp at hu; subst hu; rfl
theorem Ns.rw1 {w : World} {v : Value} {xs : List Int} (h : Ns w v xs) : Rw 1 (fun x => [.int .i64 x]) w v xs := by
 obtain ⟨h0, a, cap, rfl, hcap, h⟩ := h
 refine ⟨h0, a, cap, rfl, hcap, ?_⟩
 rcases h with h | ⟨b, off, rfl, hc⟩
 ·exact .inl h
 ·refine .inr ⟨b, off, rfl, fun i hi j u hu => ?_⟩
  cases j with
  | zero => simp at hu; subst hu; simpa using hc i hi
  | succ j => simp at hu
theorem OwnRw.n1 {w : World} {base : Nat} {v : Value} {xs : List Int} (h : OwnRw 1 (fun x => [.int .i64 x]) w base v xs) : OwnN w base v xs := by
 obtain ⟨h0, a, cap, rfl, hcap, h⟩ := h
 refine ⟨h0, a, cap, rfl, hcap, ?_⟩
 rcases h with h | ⟨b, off, rfl, hb, hc⟩
 ·exact .inl h
 ·exact .inr ⟨b, off, rfl, hb, fun i hi => by simpa using hc i hi 0 _ rfl⟩
theorem run_cpN {w : World} (ty : TypeId) (a0 : Option Addr) (sv : Value) (xs : List Int) (hsrc : Ns w sv xs) (hb : xs.length ≤ 1099511627776) :
  ∃ v' w', (Builtin.append_ #[24, 24] ty #[.slice a0 0 0, sv]).run Tryz.prog w = .ok v' w' ∧ OwnN w' w.heap.size v' xs ∧ Below w.heap.size w w' := by
 obtain ⟨v', w', h1, h2, h3⟩ := run_cpR elemN ty a0 sv hsrc.rw1 (by omega)
 exact ⟨v', w', h1, (ApR.own elemN h2).n1, h3⟩
theorem OwnN.grown {w w' : World} {base : Nat} {v : Value} {xs : List Int} {row : Option Nat} (h : OwnN w base v xs) (g : w.grownBy w' row) (hn : xs = [] ∨ row ≠ some (bO v)) : OwnN w' base v xs := by
 have hlt := h.bs.lt
 obtain ⟨h0, a, cap, rfl, hcap, h⟩ := h
 refine ⟨h0, a, cap, rfl, hcap, ?_⟩
 rcases hn with hn | hn
 ·exact .inl hn
 ·rcases h with h | ⟨b, off, rfl, hb, hc⟩
  ·exact .inl h
  ·rcases hlt with hlt | hlt
   ·exact .inl hlt
   ·have e := g.block b hlt (fun e => hn e.symm)
    exact .inr ⟨b, off, rfl, hb, fun i hi => ⟨(World.cell?_of_block (a := ⟨b, off + i, none⟩) e).trans (hc i hi).1, (World.frozen?_of_block (a := ⟨b, off + i, none⟩) e).trans (hc i hi).2⟩⟩
def RmN (w : World) (base : Nat) (v : Value) (xs : List Int) : Prop := ApR 3 1 (fun x => [.int .i64 x]) w base v xs ∧ (xs = [] → touch v = none)
section
variable {w w' : World} {base base' : Nat} {v : Value} {xs : List Int}
theorem RmN.own (h : RmN w base v xs) : OwnN w base v xs := (ApR.own elemN h.1).n1
theorem RmN.bs (h : RmN w base v xs) : Ns w v xs := h.own.bs
theorem RmN.ge (h : RmN w base v xs) : xs = [] ∨ base ≤ bO v := h.own.ge
theorem RmN.mono (h : RmN w base v xs) (hb : base' ≤ base) : RmN w base' v xs := ⟨h.1.mono hb, h.2⟩
theorem RmN.below (h : RmN w base v xs) (hb : Below w.heap.size w w') : RmN w' base v xs := ⟨h.1.below hb, h.2⟩
theorem RmN.touch (h : RmN w base v xs) {j : Nat} (ht : touch v = some j) : xs ≠ [] ∧ j = bO v := by
 refine ⟨(fun e => by rw [h.2 e] at ht; cases ht), ?_⟩
 rcases h.1 with ⟨-, a, rfl⟩ | h'
 ·cases a <;> simp [Go.Proofs.YtjkjmapibcfcdaaGreat.touch] at ht
 ·rcases h'.2 with ⟨rfl, -⟩ | ⟨g, cap, cur, rfl, -⟩
  ·simp [Go.Proofs.YtjkjmapibcfcdaaGreat.touch] at ht
  ·by_cases hc : cap = 0
   ·simp [Go.Proofs.YtjkjmapibcfcdaaGreat.touch, hc] at ht
   ·simp [Go.Proofs.YtjkjmapibcfcdaaGreat.touch, hc] at ht
    exact ht.symm
theorem RmN.grown {row : Option Nat} (h : RmN w base v xs) (g : w.grownBy w' row) (hn : xs = [] ∨ row ≠ some (bO v)) : RmN w' base v xs := by
 refine ⟨h.1.kept elemN g ?_, h.2⟩
 cases row with
 | none => exact .inl rfl
 | some j =>
  right
  intro ht
  obtain ⟨h1, h2⟩ := h.touch ht
  rcases hn with hn | hn
  ·exact h1 hn
  ·exact hn (by rw [h2])
theorem RmN.far {b o : Nat} (h : RmN w base v xs) (hb : b < base) (u : Value) : RmN (w.setCell ⟨b, o, none⟩ u) base v xs := ⟨h.1.far elemN hb u, h.2⟩
end
set_option maxHeartbeats 1000000 in
theorem cloneI_any (v : Value) (xs : List Int) (w : World) (hv : Ns w v xs) (hl : xs.length ≤ 1048576) :
  Calls Tryz.prog 59 #[v] w fun e w' => (∃ u, e = .returned u ∧ RmN w' w.heap.size u xs) ∧ Below w.heap.size w w' := by
 have HV := dH fun W (hb : Below w.heap.size w W) => hv.below hb
 have hv' := hv
 obtain ⟨-, a, cap, rfl, hcap, hc⟩ := hv'
 cases a with
 | none =>
  have e0 : xs = [] := by
   rcases hc with h | ⟨b, off, h, -⟩
   ·exact h
   ·cases h
  subst e0
  have hnil : ∀ w, (binOp .eql 24 (.slice none 0 cap) (.slice none 0 0)).run Tryz.prog w = .ok (.bool true) w := fun w => Go.Lib.run_eql_slice_nil w 24 3 none _ _ 0 0 Tryz.underlying24
  have O : RmN w w.heap.size (.slice none 0 0) [] := ⟨.inl ⟨rfl, none, rfl⟩, fun _ => rfl⟩
  clear hv HV hc
  simp only [List.length_nil]
  go_enter Tryz.func59, Tryz.ntmps59
  go_wp2
  go_ret
  exact ⟨⟨_, rfl, O⟩, Below.refl _ _⟩
 | some ad =>
  have B1 := (Below.refl w.heap.size w).alloc (Nat.le_refl _) (.cells #[] 3)
  have hN := dU HV _ B1
  have hnil : ∀ w, (binOp .eql 24 (.slice (some ad) xs.length cap) (.slice none 0 0)).run Tryz.prog w = .ok (.bool false) w := fun w => Go.Lib.run_eql_slice_nil w 24 3 (some ad) _ _ 0 0 Tryz.underlying24
  clear hv HV hc
  by_cases he : xs = []
  ·subst he
   simp only [List.length_nil] at *
   clear hN
   go_enter Tryz.func59, Tryz.ntmps59
   go_wp2
   go_ret
   exact ⟨⟨_, rfl, .inl ⟨rfl, _, rfl⟩, fun _ => by simp [touch]⟩, B1⟩
  ·have HE := dH he
   clear he
   go_enter Tryz.func59, Tryz.ntmps59
   go_wp2_with (at_builtin; refine wp_cpR elemN rfl _ _ rfl _ rfl _ xs rfl hN.rw1 (by omega) ?_; intro u w2 O2 b2)
   go_ret
   exact ⟨⟨_, rfl, O2.mono B1.size, fun e => absurd e (dU HE)⟩, bT B1 b2⟩
theorem mn_at (ds : List Int) (cop : Int) (m : Mn) : mnP ds cop m ↔ atP ds cop m (if m.planned then 1 else 0) := by
 have hw : (∀ i (h : i < m.wrote.length), nodesP ds cop m.wrote[i]) ↔ ∀ l ∈ m.wrote, nodesP ds cop l := ⟨fun h l hl => by obtain ⟨i, hi, rfl⟩ := List.getElem_of_mem hl; exact h i hi, fun h i hi => h _ (List.getElem_mem hi)⟩
 unfold mnP mnH wroteP atP
 rw [hw]
 cases hp : m.planned with
 | true =>
  simp only [if_pos]
  constructor
  ·rintro ⟨⟨h1, h2, h3, h4, h5⟩, h6, h7, h8⟩
   exact ⟨by omega, by simp, by simpa using h8, ⟨h2, h3⟩, ⟨h4, h7⟩, h6, h5⟩
  ·rintro ⟨-, -, h8, ⟨h2, h3⟩, ⟨h4, h7⟩, h6, h5⟩
   exact ⟨⟨h4.1, h2, h3, h4, h5⟩, h6, h7, by simpa using h8⟩
 | false =>
  constructor
  ·rintro ⟨⟨h1, h2, h3, h4, h5⟩, h6, h7, h8⟩
   exact ⟨by intro h; simp at h, by intro h; simp at h, by simpa using h8, ⟨h2, h3⟩, ⟨h4, h7⟩, h6, h5⟩
  ·rintro ⟨-, -, h8, ⟨h2, h3⟩, ⟨h4, h7⟩, h6, h5⟩
   exact ⟨⟨h4.1, h2, h3, h4, h5⟩, h6, h7, by simpa using h8⟩
set_option maxHeartbeats 4000000 in
theorem implMendOk_any (cv v : Value) (c : List Int × Int) (m : Mn) (w : World) (hc : RdConfig cv c w) (hv : RdMend v m w) (okc : okConfig c) (ok : okMend m) (hsc : sizConfig c ≤ 1048576) (hs : sizMend m ≤ 1048576) :
  Calls Tryz.prog 12 #[cv, v] w fun e w' => RetB (mnP c.1 c.2 m) e ∧ Below w.heap.size w w' := by
 have ba : ∀ (w : World) o, Below w.heap.size w (w.alloc o) := fun w o => (Below.refl _ _).alloc (Nat.le_refl _) o
 have CS := dH fun W (hb : Below w.heap.size w W) => implStep_any v m W (hv.below hb)
 have CA : Hid (∀ W, Below w.heap.size w W → Calls Tryz.prog 38 #[v, cv, .int .i64 (if m.planned then 1 else 0)] W fun e w' => RetB (mnP c.1 c.2 m) e ∧ Below W.heap.size W w') := fun W hb => by
  rw [mn_at]
  cases hp : m.planned with
  | true => exact implAt1_any cv v c m W (hc.below hb) (hv.below hb) okc ok hsc (smlM_of hs)
  | false => exact implAt0_any cv v c m W (hc.below hb) (hv.below hb) okc ok hsc (smlM_of hs)
 obtain ⟨ds, cop⟩ := c
 obtain ⟨ca, cc, rfl, -⟩ := formConfig hc
 obtain ⟨sa, sc, ea, ec, wa, wc, rfl, hl1, hl2, hl3⟩ := formMend hv
 simp only at *
 generalize mnP ds cop m = P at *
 generalize (if m.planned = true then (1 : Int) else 0) = sp at *
 generalize m.bye = f0 at *
 generalize m.epoch = f1 at *
 generalize m.planned = f4 at *
 generalize m.sealed.length = l2 at *
 generalize m.seen.length = l3 at *
 generalize m.wrote.length = l5 at *
 clear hc hv okc ok hs
 have bA := bT (ba w (.cells #[.slice ca ds.length cc, .int .i64 cop] 26)) (ba _ (.cells #[.int .i64 f0, .int .i64 f1, .slice sa l2 sc, .slice ea l3 ec, .bool f4, .slice wa l5 wc] 30))
 have X0 := (Bx.new w [.slice ca ds.length cc, .int .i64 cop] 26).below (ba _ (.cells #[.int .i64 f0, .int .i64 f1, .slice sa l2 sc, .slice ea l3 ec, .bool f4, .slice wa l5 wc] 30))
 have Y0 := Bx.new (w.alloc (.cells #[.slice ca ds.length cc, .int .i64 cop] 26)) [.int .i64 f0, .int .i64 f1, .slice sa l2 sc, .slice ea l3 ec, .bool f4, .slice wa l5 wc] 30
 have e1 : (w.alloc (.cells #[.slice ca ds.length cc, .int .i64 cop] 26)).heap.size = w.heap.size + 1 := by simp
 rw [e1] at Y0
 clear e1
 go_enter Tryz.func12, Tryz.ntmps12
 go_wp2_with fail
 generalize (w.alloc (.cells #[.slice ca ds.length cc, .int .i64 cop] 26)).alloc (.cells #[.int .i64 f0, .int .i64 f1, .slice sa l2 sc, .slice ea l3 ec, .bool f4, .slice wa l5 wc] 30) = w0 at *
 have PP : Hid (∀ W, Below w0.heap.size w0 W → (W.cell? ⟨w.heap.size, 0, none⟩ = some (.slice ca ds.length cc) ∧ W.cell? ⟨w.heap.size, 1, none⟩ = some (.int .i64 cop)) ∧ W.cell? ⟨w.heap.size + 1, 0, none⟩ = some (.int .i64 f0) ∧ W.cell? ⟨w.heap.size + 1, 1, none⟩ = some (.int .i64 f1) ∧ W.cell? ⟨w.heap.size + 1, 2, none⟩ = some (.slice sa l2 sc) ∧ W.cell? ⟨w.heap.size + 1, 3, none⟩ = some (.slice ea l3 ec) ∧ W.cell? ⟨w.heap.size + 1, 4, none⟩ = some (.bool f4) ∧ W.cell? ⟨w.heap.size + 1, 5, none⟩ = some (.slice wa l5 wc)) := fun W hW => ⟨⟨X0.below hW 0 _ rfl, X0.below hW 1 _ rfl⟩, Y0.below hW 0 _ rfl, Y0.below hW 1 _ rfl, Y0.below hW 2 _ rfl, Y0.below hW 3 _ rfl, Y0.below hW 4 _ rfl, Y0.below hW 5 _ rfl⟩
 have bd : Below w0.heap.size w0 w0.drew := (Below.refl _ _).drew
 clear X0 Y0
 go_region_held3 (fun W => (W.cell? ⟨w.heap.size, 0, none⟩ = some (.slice ca ds.length cc) ∧ W.cell? ⟨w.heap.size, 1, none⟩ = some (.int .i64 cop)) ∧ W.cell? ⟨w.heap.size + 1, 0, none⟩ = some (.int .i64 f0) ∧ W.cell? ⟨w.heap.size + 1, 1, none⟩ = some (.int .i64 f1) ∧ W.cell? ⟨w.heap.size + 1, 2, none⟩ = some (.slice sa l2 sc) ∧ W.cell? ⟨w.heap.size + 1, 3, none⟩ = some (.slice ea l3 ec) ∧ W.cell? ⟨w.heap.size + 1, 4, none⟩ = some (.bool f4) ∧ W.cell? ⟨w.heap.size + 1, 5, none⟩ = some (.slice wa l5 wc)) (first | exact dU PP _ hb6 | exact dU PP _ hb5 | exact dU PP _ (Below.refl _ _) | exact dU PP _ bd | go_keep)
  (first
   | (go_at_call 39; refine (dU CS _ (bT bA bd)).mono ?_; rintro e w5 ⟨rfl, b5⟩; have hb5 := bT bd b5)
   | (go_at_call 38; refine (dU CA _ (bT bA hb5)).mono ?_; rintro e w6 ⟨⟨b6, rfl, h6⟩, bl6⟩; have hb6 := bT hb5 bl6))
 all_goals
  have R : Hid (RetB P (.returned (.bool b6))) := ⟨_, rfl, h6⟩
  clear h6 CS CA
  go_wp2
  go_ret
  exact ⟨dU R, bT bA hb6⟩
end Go.Proofs.YtjkjmapibcfcdaaGreat
