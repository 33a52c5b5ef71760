/- Small steps on 'nothing below has turned', for regions whose order is drawn. -/
import Derived.Test.YtlcckhlkmnnjdabDoorB0
namespace Go.Proofs.YtlcckhlkmnnjdabDoor
open Go.RowKit

theorem keep_call {V x y : World} {p : Prop} (h : Below V.heap.size V x ∧ p) (k : Below x.heap.size x y) : Below V.heap.size V y := bstep h.1 k
theorem keep_alloc {V x : World} {p : Prop} (h : Below V.heap.size V x ∧ p) (o : Obj) : Below V.heap.size V (x.alloc o) := h.1.alloc h.1.size o
theorem keep_set {V x : World} {p : Prop} (h : Below V.heap.size V x ∧ p) {a : Addr} (ha : V.heap.size ≤ a.block) (v : Value) : Below V.heap.size V (x.setCell a v) := h.1.setCell ha v
theorem keep_set2 {V x : World} {p : Prop} (h : Below V.heap.size V x ∧ p) {a b : Addr} (ha : V.heap.size ≤ a.block) (hb : V.heap.size ≤ b.block) (v u : Value) : Below V.heap.size V ((x.setCell a v).setCell b u) := (h.1.setCell ha v).setCell hb u

theorem kcell {x y : World} (k : Below x.heap.size x y) {b o : Nat} {v : Value} (h : b < x.heap.size) (hc : x.cell? ⟨b, o, none⟩ = some v) : y.cell? ⟨b, o, none⟩ = some v := ((bcell k).1 b o h).trans hc
theorem kfroz {x y : World} (k : Below x.heap.size x y) {b o : Nat} (h : b < x.heap.size) (hc : x.frozen? ⟨b, o, none⟩ = false) : y.frozen? ⟨b, o, none⟩ = false := ((bcell k).2 b o h).trans hc

/- in a world a decimal lies in the block b. -/
def Has (V : World) (b : Nat) (m s : Int) : Prop := b < V.heap.size ∧ V.cell? ⟨b, 0, none⟩ = some (.int .i64 m) ∧ V.cell? ⟨b, 1, none⟩ = some (.int .i64 s)
theorem Has.call {V x : World} {b : Nat} {m s : Int} (h : Has V b m s) (k : Below V.heap.size V x) : Has x b m s := ⟨Nat.lt_of_lt_of_le h.1 k.size, kcell k h.1 h.2.1, kcell k h.1 h.2.2⟩
theorem Has.put {V : World} {b : Nat} {m s : Int} (h : Has V b m s) (o : Obj) : Has (V.alloc o) b m s := by
  obtain ⟨h1, h2, h3⟩ := h
  exact ⟨by simp; omega, by go_simp, by go_simp⟩
theorem Has.new (V : World) (m s : Int) (t : TypeId) : Has (V.alloc (Obj.cells #[.int .i64 m, .int .i64 s] t)) V.heap.size m s := ⟨by simp, by go_simp, by go_simp⟩

end Go.Proofs.YtlcckhlkmnnjdabDoor
