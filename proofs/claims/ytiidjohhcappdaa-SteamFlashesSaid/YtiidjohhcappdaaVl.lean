/- Part 9: structs of whole numbers, compared; what a type's row owes. -/
import Derived.Test.YtiidjohhcappdaaVk
namespace Go.V

def flatF (g : TypeId → Nat → Bool) (P : Program) : List Field → Nat → Nat → Bool
  | [], off, n => off == n
  | f :: fs, off, n => f.name != "_" && (f.offset == off && ((P.info? f.type).isSome && (g f.type (P.cellsOf f.type) && flatF g P fs (off + P.cellsOf f.type) n)))
def flatOk (P : Program) : Nat → TypeId → Nat → Bool
  | 0, _, _ => false
  | d + 1, t, n =>
    match P.underlying t with
    | some (.int _) => n == 1
    | some (.struct fs) => !P.stoodInHeld t && flatF (flatOk P d) P fs.toList 0 n
    | _ => false

def toV : PV → Value
  | .int k n => .int k n
  | _ => undef
def valueOf (P : Program) (t : TypeId) (xs : List PV) : Value :=
  match P.underlying t with
  | some (.struct _) => .agg (xs.map toV).toArray
  | _ => toV (xs.headD .junk)

theorem eqCells_cons {x y : PV} {xs ys : List PV} {r : Bool} (h : eqCells (x :: xs) (y :: ys) = some r) : ∃ k a b r', x = .int k a ∧ y = .int k b ∧ eqCells xs ys = some r' ∧ r = (a == b && r') := by
  cases x <;> try (simp [eqCells] at h; done)
  cases y <;> try (simp [eqCells] at h; done)
  rename_i k a k' b
  simp only [eqCells] at h
  cases hk : decide (k = k') with
  | false => rw [hk] at h; cases h
  | true =>
    rw [hk] at h
    have : k = k' := of_decide_eq_true hk
    subst this
    cases hr : eqCells xs ys with
    | none => rw [hr] at h; cases h
    | some r' => rw [hr] at h; exact ⟨k, a, b, r', rfl, rfl, rfl, (Option.some.inj h).symm⟩
theorem eqCells_split : ∀ (s : Nat) (xs ys : List PV) (r : Bool), s ≤ xs.length → eqCells xs ys = some r → ∃ r1 r2, eqCells (xs.take s) (ys.take s) = some r1 ∧ eqCells (xs.drop s) (ys.drop s) = some r2 ∧ r = (r1 && r2)
  | 0, xs, ys, r, _, h => ⟨true, r, rfl, h, by simp⟩
  | s + 1, [], ys, r, hs, h => by simp at hs
  | s + 1, x :: xs, [], r, hs, h => by cases x <;> simp [eqCells] at h
  | s + 1, x :: xs, y :: ys, r, hs, h => by
    obtain ⟨k, a, b, r', rfl, rfl, h1, rfl⟩ := eqCells_cons h
    obtain ⟨r1, r2, g1, g2, rfl⟩ := eqCells_split s xs ys r' (by simpa using hs) h1
    refine ⟨a == b && r1, r2, ?_, g2, by simp [Bool.and_assoc]⟩
    simp [eqCells, g1]

section
variable {P : Program} (w : World)

theorem part_run {t s off : Nat} (hi : (P.info? t).isSome = true) (hs : P.cellsOf t = s) {xs : List PV} (hl : off + s ≤ xs.length) (hone : (∀ fs, P.underlying t ≠ some (.struct fs)) → s = 1 ∧ ∃ k, P.underlying t = some (.int k)) :
    (part t (xs.map toV).toArray off).run P w = .ok (valueOf P t ((xs.drop off).take s)) w := by
  obtain ⟨i, hi'⟩ := Option.isSome_iff_exists.1 hi
  have hsz : (sizeOf t).run P w = .ok s w := by simp [sizeOf, typeInfo, hi', ← hs, Program.cellsOf]
  by_cases hst : ∃ fs, P.underlying t = some (.struct fs)
  · obtain ⟨fs, hfs⟩ := hst
    have hag : (isAgg t).run P w = .ok true w := by simp [isAgg, underlying, hfs]
    simp only [part, Sem.run_bind, hag, Result.andThen_ok, if_true, hsz, Sem.run_pure, valueOf, hfs]
    congr 2
    apply Array.ext'
    simp [List.map_take, List.map_drop, List.take_drop]
  · have hst' : ∀ fs, P.underlying t ≠ some (.struct fs) := fun fs h => hst ⟨fs, h⟩
    obtain ⟨rfl, k, hk⟩ := hone hst'
    have hag : (isAgg t).run P w = .ok false w := by simp [isAgg, underlying, hk]
    have hx : ((xs.map toV).toArray)[off]? = some (toV (xs.getD off .junk)) := by simp [List.getD, show off < xs.length by omega]
    have hv : ((xs.drop off).take 1).headD .junk = xs.getD off .junk := by simp [List.getD, List.head?_take, List.head?_drop, List.headD_eq_head?_getD]
    simp only [part, Sem.run_bind, hag, Result.andThen_ok, Bool.false_eq_true, if_false, hx, Sem.run_pure, valueOf, hk, hv]

theorem flat_one {d t n : Nat} (h : flatOk P d t n = true) : (∀ fs, P.underlying t ≠ some (.struct fs)) → n = 1 ∧ ∃ k, P.underlying t = some (.int k) := by
  intro hs
  cases d with
  | zero => cases h
  | succ d =>
    simp only [flatOk] at h
    split at h
    · rename_i k hk; exact ⟨by simpa using h, k, hk⟩
    · rename_i fs hfs; exact (hs fs hfs).elim
    · cases h

theorem flat_equal : ∀ (d D t n : Nat) (xs ys : List PV) (r : Bool), flatOk P d t n = true → d ≤ D → xs.length = n → eqCells xs ys = some r → (Op.equalIn D t (valueOf P t xs) (valueOf P t ys)).run P w = .ok r w
  | 0, _, _, _, _, _, _, h, _, _, _ => by cases h
  | d + 1, 0, _, _, _, _, _, _, h, _, _ => by omega
  | d + 1, D + 1, t, n, xs, ys, r, h, hD, hl, he => by
    simp only [flatOk] at h
    split at h
    · rename_i k hk
      have hn : n = 1 := by simpa using h
      match xs, ys, hl, he with
      | [x], [y], _, he =>
        obtain ⟨k', a, b, r', rfl, rfl, h1, rfl⟩ := eqCells_cons he
        have : r' = true := by simpa [eqCells] using h1.symm
        subst this
        simp only [valueOf, hk, List.headD, toV]
        rw [run_equalIn_int w D t k' k a b hk]
        simp
      | [x], [], _, he => cases x <;> simp [eqCells] at he
      | [x], y :: z :: ys, _, he =>
        obtain ⟨_, _, _, _, _, _, h1, _⟩ := eqCells_cons he
        simp [eqCells] at h1
      | [], _, hl, _ => simp at hl; omega
      | _ :: _ :: _, _, hl, _ => simp at hl; omega
    · rename_i fs hfs
      simp only [Bool.and_eq_true, Bool.not_eq_true'] at h
      obtain ⟨hst, hF⟩ := h
      have hfo : P.fieldsOf t = fs := by simp [Program.fieldsOf, hfs]
      simp only [valueOf, hfs]
      rw [run_equalIn_struct w D t _ _ (by rw [hfo]; exact hfs) hst, hfo]
      have hlen := (ints_of he).2.2
      have key : ∀ (l : List Field) (off : Nat) (r : Bool), flatF (flatOk P d) P l off n = true → eqCells (xs.drop off) (ys.drop off) = some r → (Op.eqFields D (xs.map toV).toArray (ys.map toV).toArray l).run P w = .ok r w := by
        intro l
        induction l with
        | nil =>
          intro off r hF he
          have : off = n := by simpa [flatF] using hF
          subst this
          rw [← hl, List.drop_length] at he
          cases hy : ys.drop xs.length with
          | nil => rw [hy] at he; have : r = true := by simpa [eqCells] using he.symm
                   subst this; simp [Op.eqFields]
          | cons y ys' => rw [hy] at he; simp [eqCells] at he
        | cons f fs ih =>
          intro off r hF he
          simp only [flatF, Bool.and_eq_true] at hF
          obtain ⟨h1, h2, h3, h4, h5⟩ := hF
          have hname : f.name ≠ "_" := by simpa using h1
          have hoff : f.offset = off := by simpa using h2
          have hend : ∀ (l : List Field) (o : Nat), flatF (flatOk P d) P l o n = true → o ≤ n := by
            intro l
            induction l with
            | nil => intro o h; have : o = n := by simpa [flatF] using h
                     omega
            | cons g gs ih' =>
              intro o h
              simp only [flatF, Bool.and_eq_true] at h
              have := ih' _ h.2.2.2.2
              omega
          have hle := hend fs _ h5
          obtain ⟨r1, r2, g1, g2, rfl⟩ := eqCells_split (P.cellsOf f.type) (xs.drop off) (ys.drop off) r (by simp; omega) he
          have p1 := part_run (P := P) w (t := f.type) (off := off) (xs := xs) h3 rfl (by omega) (flat_one h4)
          have p2 := part_run (P := P) w (t := f.type) (off := off) (xs := ys) h3 rfl (by omega) (flat_one h4)
          have q := flat_equal d D f.type (P.cellsOf f.type) _ _ r1 h4 (by omega) (by simp; omega) g1
          have g2' : eqCells (xs.drop (off + P.cellsOf f.type)) (ys.drop (off + P.cellsOf f.type)) = some r2 := by simpa [List.drop_drop] using g2
          have rest := ih _ r2 h5 g2'
          simp only [Op.eqFields, if_pos hname, hoff, Sem.run_bind, p1, p2, Result.andThen_ok, q, Sem.run_ite, Sem.run_pure]
          cases r1 with
          | true => simpa using rest
          | false => simp
      exact key fs.toList 0 r hF (by simpa using he)
    · cases h

/-- A type's row, by closed facts. -/
theorem tiok (t : Nat) (ti : TI) (h1 : (P.info? t).map (fun i => (i.size, i.bytes, i.zero.map fun z => z.cells.toList.map ofVal)) = some (ti.size, ti.bytes, some ti.zero))
    (h2 : (P.underlying t).map TyK.of = some ti.k) (h3 : Nat.beq ti.zero.length ti.size = true) (h4 : (ti.agg || Nat.beq ti.size 1) = true) (d : Nat)
    (h5 : (!ti.eq || (flatOk P d t ti.size && !P.eqGuardType P.depth t && Nat.ble d 10000 && (match P.underlying t with | some (.struct _) => true | _ => false))) = true) : TIok P t ti := by
  refine ⟨h1, h2, Nat.eq_of_beq_eq_true h3, fun ha => by rw [ha] at h4; exact Nat.eq_of_beq_eq_true (by simpa using h4), fun he w xs ys a b r hl hq ha hb => ?_⟩
  rw [he] at h5
  simp only [Bool.not_true, Bool.false_or, Bool.and_eq_true, Bool.not_eq_true'] at h5
  obtain ⟨⟨⟨h6, h7⟩, h8⟩, h9⟩ := h5
  refine ⟨?_, h7⟩
  have := flat_equal (P := P) w d 10000 t ti.size xs ys r h6 (Nat.le_of_ble_eq_true h8) hl hq
  cases hu : P.underlying t with
  | none => rw [hu] at h9; cases h9
  | some td =>
    cases td with
    | struct fs =>
      simp only [valueOf, hu] at this
      have ea : a = (xs.map toV).toArray := by apply Array.ext'; rw [ha]; simp; intro x _; cases x <;> rfl
      have eb : b = (ys.map toV).toArray := by apply Array.ext'; rw [hb]; simp; intro x _; cases x <;> rfl
      rw [ea, eb]
      simpa [Op.equal, Op.maxDepth] using this
    | _ => rw [hu] at h9; cases h9

end
end Go.V
