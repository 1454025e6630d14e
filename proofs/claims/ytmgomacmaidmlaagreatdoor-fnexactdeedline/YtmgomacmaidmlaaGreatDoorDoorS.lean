/- What a row that lists the package's two errors hands to its walk: the wrap that keeps the listed variables and the world's shape, and the two errors as the walks of the changes want them; and how they read afterwards. -/
import Derived.Test.YtmgomacmaidmlaaGreatDoorRows
import Derived.Test.YtmgomacmaidmlaaGreatDoorBytesP
import Derived.Handy
import Derived.LaidMore
import Derived.Stop.LaidTwo
import Derived.Stop.Joined
import Derived.ChangeReads
namespace Go.Proofs.YtmgomacmaidmlaaGreatDoor
open Go.ChangeShapes Go.WideShapes Go.ChangeAt Go.RowKit

section
variable {H : Type} {enc : TypeId × Value → H}
/-- The kit's two wraps in one: a condition on the first world that its heap alone decides, and the world's shape. -/
theorem andShaped {a : Assume} {C : Checked} {os : Os} {f : FuncId} {fn : Func} {s : ChangeSpec} {conds : List PathCond} {apart fresh handsOn again : Bool} {X : World → Array Value → Prop}
    (hX : ∀ (w w' : World) (args : Array Value), w.heap = w'.heap → X w args → X w' args)
    (own : ownKnob C.prog.godebug = none) (started : os.Started) (noInit : C.prog.inits.idxOf? f = none) (hfn : C.prog.funcs[f]? = some fn)
    (witness : ∃ (w : World) (tape : Tape) (i : Input), w.os = os ∧ (w.forCall tape i).Shaped C.prog ∧ i.vars = [] ∧ Input.okWide C.prog (w.forCall tape i) .any w.heap.size f i ∧
      ((s.pre enc C.prog fn conds apart (w.forCall tape i).memory i.args ∧ X (w.forCall tape i).memory i.args) ∧ sizedMet enc C.prog fn (OpenSpec.ofChange s) apart (w.forCall tape i).memory i.args) ∧ a.holds C.prog (lone (Frame.enter C.prog f i.args .normal) [] (w.forCall tape i)))
    (contract : ∀ (W : World) (base : Nat) (args : Array Value) (ds gs : List (DataW H)) (before : List MemPlace),
      (∀ (j : Nat) t v, fn.params[j]? = some t → args[j]? = some v → Value.okWide C.prog W .any base t v) →
      DataW.Whole enc C.prog fn.params.toList s.vars apart W args.toList ds gs before →
      X W args → W.ShapedOpen C.prog →
      Calls C.prog f args W fun e W' => ∃ v, e = .returned v ∧ s.post enc C.prog fn apart fresh handsOn again W args v W') :
    ReturnsInHanded a C os f .any (fun w args => (s.pre enc C.prog fn conds apart w args ∧ X w args) ∧ sizedMet enc C.prog fn (OpenSpec.ofChange s) apart w args) (s.post enc C.prog fn apart fresh handsOn again) := by
  refine returnsInHanded_of_calls own started noInit witness ?_
  intro w tape i _ hsh _ hok hpre _
  obtain ⟨_, _, _, fn', hfn', _, _, _, _, hval⟩ := hok
  obtain rfl : fn' = fn := Option.some.inj (hfn'.symm.trans hfn)
  obtain ⟨⟨⟨ds, gs, before, hw, _⟩, hx⟩, _⟩ := hpre
  refine (contract (w.forCall tape i) w.heap.size i.args ds gs before hval (DataW.Whole.of_heap (w' := w.forCall tape i) (by rfl) hw) (hX _ _ _ (by rfl) hx) hsh).mono fun e W' ⟨v, he, hp⟩ => ?_
  subst he
  exact ChangeSpec.post_blind hp
end

theorem gNR : Tryz.prog.globalNamed "loop.example/g00178/impl.errNoRegister" = some 1 := by kernel_rfl
theorem gRF : Tryz.prog.globalNamed "loop.example/g00178/impl.errRefused" = some 2 := by kernel_rfl
theorem tNR : (Tryz.prog.globals[1]?).map (·.type) = some 56 := by kernel_rfl
theorem tRF : (Tryz.prog.globals[2]?).map (·.type) = some 56 := by kernel_rfl
theorem cES : Tryz.prog.cellsOf 386 = 1 := by kernel_rfl
theorem cStr7 : Tryz.prog.cellsOf 9 = 1 := by kernel_rfl
theorem star : "*" ++ "errors.errorString" = "*errors.errorString" := by decide
theorem rowES (u : TypeId) (h : Tryz.prog.typeName? 3 u = some "*errors.errorString") : u = 361 :=
  typeName_ptr_named (nm := "errors.errorString") (by rw [star]; kernel_rfl) (by kernel_rfl) (by decide) u (by rw [star]; exact h)
/-- The two errors of a world: where each stands. -/
def ErrsS (w : World) (a0 a1 : Addr) : Prop :=
  w.var? Tryz.prog "loop.example/g00178/impl.errNoRegister" = some #[.iface 361 (.pointer (some a0))] ∧ w.var? Tryz.prog "loop.example/g00178/impl.errRefused" = some #[.iface 361 (.pointer (some a1))]
theorem errsS_of {w : World} (hL : laidMetH Tryz.prog [("loop.example/g00178/impl.errRefused", Rows.laid_loop_example_g00178_impl_errRefused), ("loop.example/g00178/impl.errNoRegister", Rows.laid_loop_example_g00178_impl_errNoRegister)] w)
    (hp : ([("loop.example/g00178/impl.errRefused", (Rows.laid_loop_example_g00178_impl_errRefused : DataW Unit)), ("loop.example/g00178/impl.errNoRegister", Rows.laid_loop_example_g00178_impl_errNoRegister)].all fun x => x.2.handleName?.isNone) = true) : ∃ a0 a1, ErrsS w a0 a1 := by
  rw [MakeChecks.laidMetH_plain _ _ _ hp] at hL
  obtain ⟨a1, a0, s0, s1, c0, c1, t0, t1, h1, h0, -⟩ := laid_sentinels2 hL gRF tRF gNR tNR Tryz.underlying56 rowES Tryz.underlying361 Tryz.underlying386 rfl rfl Tryz.underlying9 cES cStr7
  exact ⟨a0, a1, h0, h1⟩
theorem var_below {w w' : World} {n : String} {cs : Array Value} {g : Nat} (hg : Tryz.prog.globalNamed n = some g) (h : w.var? Tryz.prog n = some cs) (hb : Below w.heap.size w w') : w'.var? Tryz.prog n = some cs := by
  unfold World.var? at h ⊢
  simp only [hg, Option.bind_some] at h ⊢
  have hlt : g < w.heap.size := by
    rcases Nat.lt_or_ge g w.heap.size with h' | h'
    · exact h'
    · simp [Array.getElem?_eq_none h'] at h
  rw [hb.block g hlt]
  exact h
theorem errsS_read {H : Type} (enc : TypeId × Value → H) {w : World} {a0 a1 : Addr} (h : ErrsS w a0 a1) (sp : Nat → Bool) :
    DataW.TrodVars enc Tryz.prog w sp ["loop.example/g00178/impl.errRefused", "loop.example/g00178/impl.errNoRegister"] [tok enc (.iface 361 (.pointer (some a1))), tok enc (.iface 361 (.pointer (some a0)))] [.cell 2 0, .cell 1 0] :=
  vars_read2 enc gRF tRF Tryz.underlying56 h.2 trivial gNR tNR Tryz.underlying56 h.1 trivial sp
theorem ErrsS.below {w w' : World} {a0 a1 : Addr} (h : ErrsS w a0 a1) (hb : Below w.heap.size w w') : ErrsS w' a0 a1 :=
  ⟨var_below gNR h.1 hb, var_below gRF h.2 hb⟩
end Go.Proofs.YtmgomacmaidmlaaGreatDoor
