/-
  The map of the commands: how it is made, what it answers; a command's call.
-/
import Derived.Test.YthebbijbedffpaaDoorRlC
import Derived.Test.YthebbijbedffpaaDoorRlN
import Derived.MapKept
import Derived.Carry
namespace Go.Proofs.YthebbijbedffpaaDoor
open Go.ChangeShapes Go.WideShapes Go.ChangeAt Go.RowKit
set_option linter.unusedVariables false
/-- The methods, in the order of the commands. -/
def cmdFs : List Nat := [12, 13, 14, 15, 16, 17, 18, 19, 20, 21, 22, 23, 24]
def cmdF (i : Nat) : Nat := cmdFs.getD i 0
def mpO (i : Nat) : MapEntry := { key := .string (cmds.getD i ⟨#[]⟩), val := .func (.func (cmdF i)) #[] #[], born := i }
def mpE (n : Nat) : Array MapEntry := ((List.range n).map mpO).toArray
def mpW (W : World) (b n : Nat) : World := { W with heap := W.heap.setIfInBounds b (.map (mpE n) n) }
theorem mpE_list (n : Nat) : (mpE n).toList = (List.range n).map mpO := rfl
theorem mpE_succ (n : Nat) : (mpE n).push (mpO n) = mpE (n + 1) := by
  apply Array.toList_inj.1
  rw [Array.toList_push, mpE_list, mpE_list, List.range_succ, List.map_append]
  rfl
theorem mpW_at {W : World} {b : Nat} {o : Obj} (h : W.heap[b]? = some o) (n : Nat) : (mpW W b n).heap[b]? = some (.map (mpE n) n) := (MapKept.heap_set h).1
theorem mpW_else {W : World} {b : Nat} {o : Obj} (h : W.heap[b]? = some o) (n r : Nat) (hr : r ≠ b) : (mpW W b n).heap[r]? = W.heap[r]? := (MapKept.heap_set h).2 r hr
theorem mpW_zero {W : World} {b : Nat} (h : W.heap[b]? = some (.map #[] 0)) : mpW W b 0 = W := by
  have e : W.heap.setIfInBounds b (.map (mpE 0) 0) = W.heap := by
    apply Array.ext_getElem?
    intro r
    by_cases hr : r = b
    · subst hr; rw [(MapKept.heap_set h).1, h]; rfl
    · rw [(MapKept.heap_set h).2 r hr]
  unfold mpW
  rw [e]
theorem mpW_again {W : World} {b : Nat} (n m : Nat) : mpW (mpW W b n) b m = mpW W b m := by
  unfold mpW
  simp
theorem mpKeys {n : Nat} : ∀ x ∈ (mpE n).toList, MapKept.IsKey .string x.key := by
  intro x hx
  rw [mpE_list] at hx
  obtain ⟨i, _, rfl⟩ := List.mem_map.1 hx
  trivial
theorem uStr : Tryd.prog.underlying 9 = some .string := by kernel_rfl
theorem uMp : Tryd.prog.underlying 42 = some (.map 9 38) := by kernel_rfl
theorem cmds_at {i : Nat} (h : i < 13) : cmds[i]? = some (cmds.getD i ⟨#[]⟩) := by
  rw [List.getD_eq_getElem?_getD, List.getElem?_eq_getElem (show i < cmds.length from h)]
  rfl
theorem mp_stepK {W : World} {b n : Nat} {o : Obj} (h : W.heap[b]? = some o) (hn : n < 13) (k : ByteArray) (hk : cmds.getD n ⟨#[]⟩ = k) :
    (Instr.mapUpdate 42 (.map (some b)) (.string k) (.func (.func (cmdF n)) #[] #[])).run Tryd.prog (mpW W b n) = .ok () (mpW W b (n + 1)) := by
  rcases MapKept.findNow_spec (d := .string) (k := .string k) trivial (mpE n).toList 0 mpKeys with ⟨h1, h2⟩ | ⟨j, e, h1, h2, h3⟩
  · have hb := mpW_at h n
    have e1 : { mpW W b n with heap := (mpW W b n).heap.setIfInBounds b (.map ((mpE n).push (mpO n)) (n + 1)) } = mpW W b (n + 1) := by
      rw [mpE_succ]
      exact mpW_again n (n + 1)
    rw [← e1]
    simp [Instr.mapUpdate, run_underlying uMp, MapKept.run_getObj_map hb, MapKept.run_checkKey uStr (show MapKept.IsKey .string (.string k) from trivial), MapKept.run_findKey uStr h1, MapKept.run_setObj_map _ hb, Result.andThen, mpO]
    rw [← List.getD_eq_getElem?_getD, hk]
  · exfalso
    rw [mpE_list, List.getElem?_map] at h2
    obtain ⟨i, hi, rfl⟩ := Option.map_eq_some_iff.1 h2
    obtain ⟨hj1, hj2⟩ := List.getElem?_eq_some_iff.1 hi
    rw [List.length_range] at hj1
    rw [List.getElem_range] at hj2
    have hk' : cmds.getD i ⟨#[]⟩ = k := by
      have := h3
      simp only [mpO] at this
      injection this
    have := cmds_inj i n _ (cmds_at (by omega)) (by rw [hk', ← hk]; exact cmds_at hn)
    omega
theorem mp_step {W : World} {b n : Nat} {o : Obj} (h : W.heap[b]? = some o) (hn : n < 13) :
    (Instr.mapUpdate 42 (.map (some b)) (.string (cmds.getD n ⟨#[]⟩)) (.func (.func (cmdF n)) #[] #[])).run Tryd.prog (mpW W b n) = .ok () (mpW W b (n + 1)) := mp_stepK h hn _ rfl
theorem mp_first {W : World} {b : Nat} (h : W.heap[b]? = some (.map #[] 0)) :
    (Instr.mapUpdate 42 (.map (some b)) (.string (cmds.getD 0 ⟨#[]⟩)) (.func (.func (cmdF 0)) #[] #[])).run Tryd.prog W = .ok () (mpW W b 1) := by
  have := mp_step h (n := 0) (by omega)
  rwa [mpW_zero h] at this
theorem zeroFn (w : World) : (zeroValue 38).run Tryd.prog w = .ok .nilFunc w := by go_simp
/-- What the map answers. -/
theorem mp_look {w : World} {b : Nat} (h : w.heap[b]? = some (.map (mpE 13) 13)) (t : ByteArray) :
    (cmdI t = none → (Instr.lookup 42 (.map (some b)) (.string t) true).run Tryd.prog w = .ok (.tuple #[.nilFunc, .bool false]) w) ∧
    (∀ i, i < 13 → cmds[i]? = some t → (Instr.lookup 42 (.map (some b)) (.string t) true).run Tryd.prog w = .ok (.tuple #[.func (.func (cmdF i)) #[] #[], .bool true]) w) := by
  rcases MapKept.findNow_spec (d := .string) (k := .string t) trivial (mpE 13).toList 0 mpKeys with ⟨h1, h2⟩ | ⟨j, e, h1, h2, h3⟩
  · refine ⟨fun _ => ?_, fun i hi ht => ?_⟩
    · simp [Instr.lookup, run_underlying uMp, MapKept.run_getObj_map h, MapKept.run_checkKey uStr (show MapKept.IsKey .string (.string t) from trivial), MapKept.run_findKey uStr h1, Result.andThen]
    · exfalso
      refine h2 (mpO i) ?_ ?_
      · rw [mpE_list]; exact List.mem_map.2 ⟨i, List.mem_range.2 hi, rfl⟩
      · rw [cmds_at hi] at ht; injection ht with ht; simp only [mpO]; rw [ht]
  · rw [mpE_list, List.getElem?_map] at h2
    obtain ⟨i, hi, rfl⟩ := Option.map_eq_some_iff.1 h2
    obtain ⟨hj1, hj2⟩ := List.getElem?_eq_some_iff.1 hi
    rw [List.length_range] at hj1
    rw [List.getElem_range] at hj2
    subst hj2
    have hjn : j < 13 := hj1
    have hk : cmds.getD j ⟨#[]⟩ = t := by
      have := h3
      simp only [mpO] at this
      injection this
    have hc : cmds[j]? = some t := by rw [← hk]; exact cmds_at hjn
    refine ⟨fun hn => (by rw [cmdI_at hc] at hn; cases hn), fun i' hi' ht => ?_⟩
    have e' : i' = j := cmds_inj i' j t ht hc
    subst e'
    simp [Instr.lookup, run_underlying uMp, MapKept.run_getObj_map h, MapKept.run_checkKey uStr (show MapKept.IsKey .string (.string t) from trivial), MapKept.run_findKey uStr h1, Result.andThen, mpO]
def CallIs (i : Nat) (s : ByteArray) (o q : Nat) (w : World) (e : Ending) (w' : World) : Prop := ∃ (k c : Int) (x : Cl) (o' : Nat) (wr' : Bool), e = .returned (vaV k c x) ∧ LnR w' q s o' wr' ∧ OnlyB q w w' ∧ ansI i s o = bif (wr' || hasW s o') then none else some (k, c, x)
theorem one_word (i : Nat) (s : ByteArray) (o : Nat) (X : LnA) (h : ansI i s o = bif hasW s o && !hasW s (wN s o) then some X else none) : ansI i s o = bif ((false || !hasW s o) || hasW s (wN s o)) then none else some X := by
  rw [h]
  cases hasW s o <;> cases hasW s (wN s o) <;> rfl
theorem numBack {s : ByteArray} {o : Nat} {v : Int} (h : numL (wW s (wN s o)).data.toList = some v) : hasW s o = true := hasW_back (numW h)
set_option maxHeartbeats 1000000 in
/-- What a command's call answers. -/
theorem call_any (i : Nat) (hi : i < 13) (s : ByteArray) (hs : s.size ≤ 65536) (o q B : Nat) (hB : B ≤ q) (w : World) (h : LnR w q s o false) (hE : EnvN B w) :
    Calls Tryd.prog (cmdF i) #[.pointer (some ⟨q, 0, none⟩)] w (CallIs i s o q w) := by
  rcases (show i = 0 ∨ i = 1 ∨ i = 2 ∨ i = 3 ∨ i = 4 ∨ i = 5 ∨ i = 6 ∨ i = 7 ∨ i = 8 ∨ i = 9 ∨ i = 10 ∨ i = 11 ∨ i = 12 by omega) with rfl | rfl | rfl | rfl | rfl | rfl | rfl | rfl | rfl | rfl | rfl | rfl | rfl
  · refine (ln_mount q w).mono ?_
    rintro e w' ⟨rfl, hb⟩
    exact ⟨1, 0, clZ, o, false, rfl, Box2.below h hb, (OnlyB.refl q w).below hb, rfl⟩
  · refine (ln_sync q w).mono ?_
    rintro e w' ⟨rfl, hb⟩
    exact ⟨3, 0, clZ, o, false, rfl, Box2.below h hb, (OnlyB.refl q w).below hb, rfl⟩
  · refine (ln_crash q w).mono ?_
    rintro e w' ⟨rfl, hb⟩
    exact ⟨3, 1, clZ, o, false, rfl, Box2.below h hb, (OnlyB.refl q w).below hb, rfl⟩
  · refine (ln_unmount q w).mono ?_
    rintro e w' ⟨rfl, hb⟩
    exact ⟨4, 0, clZ, o, false, rfl, Box2.below h hb, (OnlyB.refl q w).below hb, rfl⟩
  · refine (ln_save q w).mono ?_
    rintro e w' ⟨rfl, hb⟩
    exact ⟨5, 0, clZ, o, false, rfl, Box2.below h hb, (OnlyB.refl q w).below hb, rfl⟩
  · refine (ln_rollback q w).mono ?_
    rintro e w' ⟨rfl, hb⟩
    exact ⟨6, 0, clZ, o, false, rfl, Box2.below h hb, (OnlyB.refl q w).below hb, rfl⟩
  · refine (ln_mkdir s hs o false q w h).mono ?_
    rintro e w' ⟨rfl, hl, ho⟩
    exact ⟨2, 0, _, _, _, rfl, hl, ho, one_word _ s o _ rfl⟩
  · refine (ln_write s hs o false q B hB w h hE).mono ?_
    rintro e w' ⟨n, rfl, hn, hl, ho⟩
    refine ⟨2, 0, _, _, _, rfl, hl, ho, ?_⟩
    show (numL (wW s (wN s o)).data.toList).map _ = _
    rw [hasW_end]
    cases hn0 : numL (wW s (wN s o)).data.toList with
    | none => rw [show ∀ b, ((b || (none : Option Int).isNone) || false) = true by intro b; cases b <;> rfl]; rfl
    | some v => rw [numBack hn0, hn v hn0]; rfl
  · refine (ln_read s hs o false q w h).mono ?_
    rintro e w' ⟨rfl, hl, ho⟩
    exact ⟨2, 0, _, _, _, rfl, hl, ho, one_word _ s o _ rfl⟩
  · refine (ln_cut s hs o false q B hB w h hE).mono ?_
    rintro e w' ⟨n, rfl, hn, hl, ho⟩
    refine ⟨2, 0, _, _, _, rfl, hl, ho, ?_⟩
    show (bif hasW s (wN s (wN s o)) then none else (numL (wW s (wN s o)).data.toList).map _) = _
    cases hn0 : numL (wW s (wN s o)).data.toList with
    | none => rw [show ∀ b c, ((b || (none : Option Int).isNone) || c) = true by intro b c; cases b <;> cases c <;> rfl]; cases hasW s (wN s (wN s o)) <;> rfl
    | some v => rw [numBack hn0, hn v hn0]; cases hasW s (wN s (wN s o)) <;> rfl
  · refine (ln_move s hs o false q w h).mono ?_
    rintro e w' ⟨rfl, hl, ho⟩
    refine ⟨2, 0, _, _, _, rfl, hl, ho, ?_⟩
    show (bif hasW s (wN s o) && !hasW s (wN s (wN s o)) then _ else none) = _
    cases h1 : hasW s (wN s o) with
    | true => rw [hasW_back h1]; cases hasW s (wN s (wN s o)) <;> rfl
    | false => cases hasW s o <;> rfl
  · refine (ln_remove s hs o false q w h).mono ?_
    rintro e w' ⟨rfl, hl, ho⟩
    exact ⟨2, 0, _, _, _, rfl, hl, ho, one_word _ s o _ rfl⟩
  · refine (ln_list s hs o false q w h).mono ?_
    rintro e w' ⟨rfl, hl, ho⟩
    refine ⟨2, 0, _, _, _, rfl, hl, ho, ?_⟩
    show (bif hasW s o && hasW s (wN s o) then none else _) = _
    cases h1 : hasW s o with
    | true =>
      show (bif true && hasW s (wN s o) then none else _) = bif false || hasW s (wN s o) then none else _
      cases hasW s (wN s o) <;> rfl
    | false => rw [show hasW s (cond false (wN s o) o) = false from h1]; rfl
end Go.Proofs.YthebbijbedffpaaDoor
