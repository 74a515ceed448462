/-
  Calls through an interface that holds a pointer: which function, with which receiver.
-/
import Derived.Test.YtbmphbeocbgalaaGrA
import Derived.Handy
namespace Go.Proofs.Ytbmphbeocbgalaa
open Go.RowKit

theorem run_wrapChk {P : Program} {t : TypeId} {p : Addr} {nm : String} {w : World} : (Builtin.ssaWrapNilChk_ #[t] t #[.pointer (some p), strVal "", strVal nm]).run P w = .ok (.pointer (some p)) w := rfl

/-- a method of the value, called through a pointer to it: the receiver is read there -/
theorem run_method_val {P : Program} {fuel : Nat} {t elem e2 : TypeId} {f : FuncId} {i : TypeInfo} {m : Go.Method} {name : String} {p : Addr} {u : Value} {w : World} (hi : P.info? t = some i) (hm : i.methods.find? (·.name == name) = some m) (hp : m.path = #[]) (hf : m.func = some (f, false))
    (hu : P.underlying t = some (.pointer elem)) (hd : P.underlying elem = some (.slice e2)) (hc : w.cell? p = some u) :
    (method (fuel + 1) t (.pointer (some p)) name).run P w = .ok (f, u) w := by
  have hagg : (isAgg elem).run P w = .ok false w := by
    unfold isAgg
    simp [run_underlying hd, go_sem]
  unfold method
  simp [typeInfo, hi, hm, hp, hf, follow, receiverAt, run_underlying hu, Place.get, run_wrapChk, asAddr, hagg, go_sem, loadVar, hc]

theorem run_method_closed {P : Program} {fuel : Nat} {t elem e2 : TypeId} {f : FuncId} {name : String} {p : Addr} {u : Value} {w : World} (h : (P.info? t).map (fun i => (i.methods.find? (·.name == name)).map (fun m => (m.path, m.func))) = some (some (#[], some (f, false))))
    (hu : P.underlying t = some (.pointer elem)) (hd : P.underlying elem = some (.slice e2)) (hc : w.cell? p = some u) :
    (method (fuel + 1) t (.pointer (some p)) name).run P w = .ok (f, u) w := by
  obtain ⟨i, hi, h1⟩ := Option.map_eq_some_iff.1 h
  obtain ⟨m, hm, h2⟩ := Option.map_eq_some_iff.1 h1
  simp only [Prod.mk.injEq] at h2
  exact run_method_val hi hm h2.1 h2.2 hu hd hc

theorem und_ptrHeap : Try.prog.underlying 112 = some (.pointer 82) := by kernel_rfl

theorem und_heap : Try.prog.underlying 82 = some (.slice 79) := by kernel_rfl

theorem meth_Less {p : Addr} {u : Value} {w : World} (hc : w.cell? p = some u) : (method 288 112 (.pointer (some p)) "Less").run Try.prog w = .ok (157, u) w :=
  run_method_closed (by kernel_rfl) und_ptrHeap und_heap hc

theorem meth_Len {p : Addr} {u : Value} {w : World} (hc : w.cell? p = some u) : (method 288 112 (.pointer (some p)) "Len").run Try.prog w = .ok (92, u) w :=
  run_method_closed (by kernel_rfl) und_ptrHeap und_heap hc

theorem meth_Swap {p : Addr} {u : Value} {w : World} (hc : w.cell? p = some u) : (method 288 112 (.pointer (some p)) "Swap").run Try.prog w = .ok (158, u) w :=
  run_method_closed (by kernel_rfl) und_ptrHeap und_heap hc
end Go.Proofs.Ytbmphbeocbgalaa
