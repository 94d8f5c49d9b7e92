/- What is kept behind each call of the walk of ConfigSteps. -/
import Derived.Test.YtkaddilgegimjaaDoorCf4
namespace Go.Proofs.YtkaddilgegimjaaDoor
set_option linter.unusedVariables false
set_option linter.unusedSimpArgs false
open Go.RowKit

/-- What is kept behind each call at the end. -/
def KK (w0 : World) (L : List (Nat × Array Value × TypeId)) (x y : Value) (s : ByteArray) (w : World) : Prop := Wn w0 w ∧ Fr w L ∧ Ts x s w ∧ Ts y s w
theorem KK.step {w0 w w' : World} {L : List (Nat × Array Value × TypeId)} {x y : Value} {s : ByteArray} (h : KK w0 L x y s w) (hb : Below w.heap.size w w') : KK w0 L x y s w' := ⟨h.1.step hb, h.2.1.later hb, h.2.2.1.later hb, h.2.2.2.later hb⟩
theorem KK.drew {w0 w : World} {L : List (Nat × Array Value × TypeId)} {x y : Value} {s : ByteArray} (h : KK w0 L x y s w) : KK w0 L x y s w.drew := ⟨h.1.drew, h.2.1, h.2.2.1, h.2.2.2⟩
theorem KK.num {w0 w : World} {L : List (Nat × Array Value × TypeId)} {x y v : Value} {s : ByteArray} {m : Int} (h : KK w0 L x y s w) (he : Er v m) :
    Calls Tryd.prog 37 #[v] w fun e w' => e = .returned (.int .i64 m) ∧ KK w0 L x y s w' := (num_er he h.1).mono fun e w' ⟨he, hb⟩ => ⟨he, h.step hb⟩
theorem KK.sure {w0 w : World} {L : List (Nat × Array Value × TypeId)} {x y : Value} {s : ByteArray} (h : KK w0 L x y s w) :
    Calls Tryd.prog 28 #[] w fun e w' => e = .returned (.bool true) ∧ KK w0 L x y s w' := (sure21_any w h.1.handle).mono fun e w' ⟨he, hb⟩ => ⟨he, h.step hb⟩
theorem KK.of {w0 w : World} {L : List (Nat × Array Value × TypeId)} {x y : Value} {s : ByteArray} {F : FuncId} {A : Array Value} {v : Value} (h : KK w0 L x y s w) (hc : Calls Tryd.prog F A w fun e w' => e = .returned v ∧ Below w.heap.size w w') :
    Calls Tryd.prog F A w fun e w' => e = .returned v ∧ KK w0 L x y s w' := hc.mono fun e w' ⟨he, hb⟩ => ⟨he, h.step hb⟩
end Go.Proofs.YtkaddilgegimjaaDoor
