/-
  ReadFile, of the program and of the model.
-/
import Derived.Test.YtbdoablokoghbaaGreatV01
namespace Go.Proofs.YtbdoablokoghbaaGreat
open Go.ChangeShapes Go.WideShapes Go.ChangeAt Go.RowKit
set_option linter.unusedVariables false
/-- What fileFault tells. -/
def FlIs (n : Nat) (F : Nat → Fi) (q : ByteArray) (c : Int) : Prop := ((∀ j, j < n → (F j).p ≠ q) ∧ c = 5) ∨ ∃ j, j < n ∧ (F j).p = q ∧ (((F j).d = true ∧ c = 17) ∨ ((F j).d = false ∧ c = 0))
theorem FlIs.uniq {n : Nat} {F : Nat → Fi} {q : ByteArray} {c c' : Int} (hs : Srt n F) (h : FlIs n F q c) (h' : FlIs n F q c') : c = c' := by
  rcases h with ⟨a, rfl⟩ | ⟨j, hj, e, g⟩ <;> rcases h' with ⟨a', rfl⟩ | ⟨j', hj', e', g'⟩
  · rfl
  · exact absurd e' (a j' hj')
  · exact absurd e (a' j hj)
  · obtain rfl := hs.uniq hj hj' (e.trans e'.symm)
    rcases g with ⟨g, rfl⟩ | ⟨g, rfl⟩ <;> rcases g' with ⟨g', rfl⟩ | ⟨g', rfl⟩ <;> first | rfl | (rw [g] at g'; cases g')
set_option maxRecDepth 100000 in
set_option maxHeartbeats 1000000 in
theorem l11File_any (a : Option Addr) (n c : Nat) (F : Nat → Fi) (q : ByteArray) (hn : n ≤ 1048576) (w : World) (h : Els w 3 a n (fiF F)) :
    Calls Tryz.prog 61 #[.slice a n c, .string q] w fun e w' => (∃ r x : Int, e = .returned (.tuple #[.int .i64 r, .int .i64 x]) ∧ FlIs n F q x ∧ (x = 0 → ∃ j : Nat, r = (j : Int) ∧ j < n ∧ (F j).p = q ∧ (F j).d = false)) ∧ w' = w := by
  have HF : Hid (Calls Tryz.prog 51 #[.slice a n c, .string q] w fun e w' => (∃ r : Int, e = .returned (.int .i64 r) ∧ FstIs n F q r) ∧ w' = w) := l11Find_any a n c F q hn w h
  have H : Hid (Els w 3 a n (fiF F)) := h
  clear h
  go_enter Tryz.func61, Tryz.ntmps61
  go_wp2_with fail
  refine (Calls.mono HF.out) ?_
  rintro e w1 ⟨⟨r, rfl, hr⟩, rfl⟩
  clear HF
  rcases hr with ⟨rfl, hno⟩ | ⟨j, rfl, hj, ej, hfst⟩
  · have HD : Hid (FlIs n F q 5) := .inl ⟨hno, rfl⟩
    clear hno
    go_wp2
    go_ret2
    exact ⟨⟨_, _, rfl, HD.out, fun e => by cases e⟩, rfl⟩
  · obtain ⟨b, off, rfl, hc⟩ := H.out.opened (by omega)
    obtain ⟨c0, c1, c2⟩ := Els.fiC hc j hj
    have hlt' : (j : Int) < (n : Int) := by omega
    have h0 : ¬ (j : Int) < 0 := by omega
    have HD : Hid (∀ x : Int, (((F j).d = true ∧ x = 17) ∨ ((F j).d = false ∧ x = 0)) → FlIs n F q x) := fun x h => .inr ⟨j, hj, ej, h⟩
    have HJ : Hid ((F j).d = false → ∃ i : Nat, (j : Int) = (i : Int) ∧ i < n ∧ (F i).p = q ∧ (F i).d = false) := fun e => ⟨j, rfl, hj, ej, e⟩
    clear hfst ej hc
    generalize hy : F j = y at c0 c1 c2 HD HJ
    clear hy
    obtain ⟨p, d, t⟩ := y
    dsimp only at *
    cases d with
    | true =>
      go_wp2
      go_ret2
      exact ⟨⟨_, _, rfl, HD.out 17 (.inl ⟨by trivial, rfl⟩), fun e => by cases e⟩, rfl⟩
    | false =>
      go_wp2
      go_ret2
      exact ⟨⟨_, _, rfl, HD.out 0 (.inr ⟨by trivial, rfl⟩), fun _ => HJ.out (by trivial)⟩, rfl⟩
/-- So many bytes of a text from a place on, or as many as there are. -/
def partT (d : ByteArray) (at_ k : Nat) : ByteArray := d.extract (min at_ d.size) (min at_ d.size + min k (d.size - min at_ d.size))
theorem partT_two (d : ByteArray) (at_ k f m : Nat) (hf : f = min at_ d.size) (hm : m = min k (d.size - f)) : (d.extract f d.size).extract 0 m = partT d at_ k := by
  subst hf
  rw [extract_both d _ 0 m (by omega), Nat.add_zero, hm]
  rfl
theorem partT_one (d : ByteArray) (at_ k f m : Nat) (hf : f = min at_ d.size) (hm : m = min k (d.size - f)) : d.extract f (f + m) = partT d at_ k := by
  subst hf; subst hm; rfl
/-- What ReadFile answers. -/
def RdIs (n : Nat) (F : Nat → Fi) (p : ByteArray) (k l : Int) (t : ByteArray) (c : Int) : Prop :=
  (FtIs n F 1 (fun _ => p) c ∧ c ≠ 0 ∧ t = ⟨#[]⟩) ∨ (FtIs n F 1 (fun _ => p) 0 ∧
    ((FlIs n F p c ∧ c ≠ 0 ∧ t = ⟨#[]⟩) ∨ (FlIs n F p 0 ∧ (((k < 0 ∨ l < 0) ∧ c = 4 ∧ t = ⟨#[]⟩) ∨ (¬ (k < 0 ∨ l < 0) ∧ c = 0 ∧ ∃ j, j < n ∧ (F j).p = p ∧ t = partT (F j).t k.toNat l.toNat)))))
theorem RdIs.uniq {n : Nat} {F : Nat → Fi} {p : ByteArray} {k l : Int} {t t' : ByteArray} {c c' : Int} (h : RdIs n F p k l t c) (h' : RdIs n F p k l t' c') : t = t' ∧ c = c' := by
  rcases h with ⟨a, b, rfl⟩ | ⟨a, q⟩ <;> rcases h' with ⟨a', b', rfl⟩ | ⟨a', q'⟩
  · exact ⟨rfl, a.uniq a'⟩
  · exact absurd (a.uniq a') b
  · exact absurd (a'.uniq a) b'
  · have hs := a.ok.1.srt
    rcases q with ⟨e, e1, rfl⟩ | ⟨e, ⟨e1, rfl, rfl⟩ | ⟨e1, rfl, j, hj, ej, rfl⟩⟩ <;> rcases q' with ⟨f, f1, rfl⟩ | ⟨f, ⟨f1, rfl, rfl⟩ | ⟨f1, rfl, j', hj', ej', rfl⟩⟩
    · exact ⟨rfl, e.uniq hs f⟩
    · exact absurd (e.uniq hs f) e1
    · exact absurd (e.uniq hs f) e1
    · exact absurd (f.uniq hs e) f1
    · exact ⟨rfl, rfl⟩
    · exact absurd e1 f1
    · exact absurd (f.uniq hs e) f1
    · exact absurd f1 e1
    · obtain rfl := hs.uniq hj hj' (ej.trans ej'.symm)
      exact ⟨rfl, rfl⟩
end Go.Proofs.YtbdoablokoghbaaGreat
