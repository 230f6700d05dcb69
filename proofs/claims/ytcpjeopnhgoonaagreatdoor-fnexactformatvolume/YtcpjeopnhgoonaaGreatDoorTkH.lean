/-
  Two moves of a walk through a drawn region, in short.
-/
import Derived.Deep.RegionHeld3
namespace Go.Proofs.YtcpjeopnhgoonaaGreatDoor
section
variable {P : Go.Program} {ops : Array Go.Oper} {Q : Go.Exit → Go.Act → Go.World → Prop} {md : Go.Region.Mode} {S : Go.World → Prop}
theorem tkH {i : Nat} {oi : Go.Oper} {v : Go.Value} {fuel : Nat} {listed : Array Bool} {a : Go.Act} {w : Go.World} (hi : ops[i]? = some oi) (h3 : (Go.Region.noSelect ops && (Go.Region.free md ops listed i && (Go.Region.ready md ops listed).contains i)) = true) (hw : Go.Region.wanted oi (Go.yielded ops a.tmps) = true) (hp : ∀ w' : Go.World, S w' → (Go.execOp a.eval oi).run P w' = .ok (.value v) w') (hS : S w) (h : Go.wpAnyH P md ops (Go.NoPanic Q) S fuel (listed.setIfInBounds i true) (a.put oi.dst v) w) : Go.wpAnyH P md ops (Go.NoPanic Q) S (fuel + 1) listed a w := by
  rw [Bool.and_eq_true, Bool.and_eq_true] at h3
  exact Go.wpAnyH_take hi h3.1 h3.2.1 h3.2.2 (fun _ _ _ h => h) (Or.inl ⟨hw, hp⟩) hS h
theorem rdH {i : Nat} {o : Go.Oper} {fuel : Nat} {listed : Array Bool} {a : Go.Act} {w : Go.World} (hr : Go.Region.ready md ops listed = [i]) (ho : ops[i]? = some o)
    (h : ∀ K' : Go.Act → Go.World → Prop, Go.Shut (∀ a w, S w → (S w → Go.wpAnyH P md ops Q S fuel (listed.setIfInBounds i true) a w) → K' a w) → if Go.Region.wanted o (Go.yielded ops a.tmps) = true then Go.Oper.wp P o a w K' Q else K' (a.put o.dst Go.undef) w) : Go.wpAnyH P md ops Q S (fuel + 1) listed a w :=
  Go.wpAnyH_ready hr (by simp) (Go.AllReadyH.cons ho h Go.AllReadyH.nil)
end
end Go.Proofs.YtcpjeopnhgoonaaGreatDoor
