/- The contract of lex's past. -/
import Derived.Test.YtlcckhlkmnnjdaaDoorLBytes
namespace Go.Proofs.YtlcckhlkmnnjdaaDoor
open Go.RowKit

theorem ret_nat {a b : Nat} (h : a = b) : Ending.returned (.int .i64 (a : Int)) = .returned (.int .i64 (b : Int)) := by rw [h]

def Enters (f : Nat) : Prop := ∀ (args : Array Value) (w : World), (callFunc f args).run Tryd.prog w = .ok (.enter f args) w
theorem enters {f : Nat} {fn : Func} {c : Code} (hf : Tryd.prog.funcs[f]? = some fn) (hname : (fn.name == "runtime.NumGoroutine") = false) (hb : fn.body = some c) : Enters f := fun args w => by
  have h1 : fn.name ≠ "runtime.NumGoroutine" := by simpa using hname
  simp [callFunc, hf, h1, hb]
def Tests (f : Nat) (p : UInt8 → Bool) : Prop := ∀ (c : UInt8) (w : World), Calls Tryd.prog f #[.int .u8 c.toNat] w fun e w' => e = .returned (.bool (p c)) ∧ w' = w

set_option maxHeartbeats 800000 in
theorem past_any (f : Nat) (p : UInt8 → Bool) (he : Enters f) (hf : Tests f p) (l : List UInt8) (at0 : Nat) (w : World) (hl : l.length ≤ 1000) (ha : at0 ≤ l.length) :
    Calls Tryd.prog 16 #[.string ⟨l.toArray⟩, .int .i64 at0, .func (Fn.func f) #[] #[]] w fun e w' => e = .returned (.int .i64 ((at0 + run p (l.drop at0) : Nat) : Int)) ∧ w' = w := by
  have HF := hide hf
  clear hf
  unfold Enters at he
  generalize hR : at0 + run p (l.drop at0) = R
  have HR := hide hR
  clear hR
  go_enter Tryd.func16, Tryd.ntmps16
  go_wp2_with fail
  go_loop [1] (fun i => ∃ k : Nat, k ≤ l.length ∧ i = .int .i64 k ∧ Hid (k + run p (l.drop k) = R)) (fun i => l.length - (intOf i).toNat)
  case atStart => exact ⟨at0, ha, rfl, HR⟩
  case round =>
    clear HR
    obtain ⟨k, hk, rfl, HR⟩ := hrel
    by_cases hlt : k < l.length
    · have hge : (⟨l.toArray⟩ : ByteArray)[k]'(by simpa [ByteArray.size] using hlt) = l[k] := rfl
      cases hp : p l[k]
      · have HP := hide hp
        have HE := hide (show k = R by rw [← unhide HR, run_no hlt hp]; rfl)
        clear hp
        go_wp2_with fail
        refine (unhide HF l[k] _).mono ?_
        rintro e w' ⟨rfl, rfl⟩
        rw [unhide HP]
        go_wp2_with fail
        go_ret
        exact ⟨ret_nat (unhide HE), rfl⟩
      · have HP := hide hp
        have HE := hide (show k + 1 + run p (l.drop (k + 1)) = R by rw [← unhide HR, run_yes hlt hp])
        clear hp
        go_wp2_with fail
        refine (unhide HF l[k] _).mono ?_
        rintro e w' ⟨rfl, rfl⟩
        rw [unhide HP]
        go_wp2_with fail
        go_round
        case rel => exact ⟨k + 1, by omega, by go_num, HE⟩
        case measure => simp [intOf]; omega
    · have HE := hide (show k = R by rw [← unhide HR, run_end (by omega)]; rfl)
      go_wp2_with fail
      go_ret
      exact ⟨ret_nat (unhide HE), rfl⟩
theorem e_blank : Enters 17 := enters Tryd.func17 (by kernel_rfl) rfl
theorem e_inName : Enters 23 := enters Tryd.func23 (by kernel_rfl) rfl
theorem e_digit : Enters 24 := enters Tryd.func24 (by kernel_rfl) rfl
theorem e_inText : Enters 30 := enters Tryd.func30 (by kernel_rfl) rfl
end Go.Proofs.YtlcckhlkmnnjdaaDoor
