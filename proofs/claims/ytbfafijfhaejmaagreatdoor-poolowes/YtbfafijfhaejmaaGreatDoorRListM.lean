/- What takeList does with images. -/
import Derived.Test.YtbfafijfhaejmaaGreatDoorRListP
namespace Go.Proofs.YtbfafijfhaejmaaGreatDoor
open Go.RowKit

/-- An image, and where its page's items lie. -/
abbrev Lm := Im × (Nat × Option Addr × Nat)
def imc (z : Lm) : List Value := [.int .i64 z.1.page, .int .i64 z.1.body.lsn, .int .i64 z.1.body.kind, .int .i64 z.1.body.level, .int .i64 z.1.body.right, .string z.1.body.high, .slice z.2.2.1 z.1.body.items.length z.2.2.2]
structure LmAt (w : World) (base : Nat) (v : Value) (z : Lm) : Prop where
  strs : Strs w z.2.1 z.2.2.1 z.1.body.items
  fit : Fit z.2.2.1 z.1.body.items.length z.2.2.2
  ge : 0 < z.1.body.items.length → base ≤ z.2.1
  ne : 0 < z.1.body.items.length → v.ownBlock ≠ some z.2.1
  high : z.1.body.high.size ≤ 140737488355328
  lsn : z.1.body.lsn < 9223372036854775808
/-- Images that the value v owns. -/
structure Li (w : World) (base : Nat) (v : Value) (l : List Lm) : Prop where
  own : w.ownsRow base 183 7 v l.length (l.flatMap imc)
  each : ∀ z ∈ l, LmAt w base v z
theorem Li.kept {S : Nat → Prop} {w w' : World} {base : Nat} {v : Value} {l : List Lm} (h : Li w base v l) (ho : Only S w w') (hS : ∀ k, base ≤ k → ¬ S k) : Li w' base v l :=
  ⟨own_kept h.own ho (fun b hb => hS b (World.ownsRow.lt h.own b hb).1), fun z hz => by
    obtain ⟨h1, h2, h3, h4, h5, h6⟩ := h.each z hz
    exact ⟨h1.kept ho (fun h0 => hS _ (h3 h0)), h2, h3, h4, h5, h6⟩⟩
theorem Li.nil (w : World) (base : Nat) : Li w base (.slice none 0 0) [] := ⟨World.ownsRow_nil _ _ _ _, fun z hz => by cases hz⟩
theorem Li.ims {w : World} {base : Nat} {v : Value} {l : List Lm} (h : Li w base v l) (hl : l.length ≤ 17592186043904) :
    ∃ B ao cp, v = .slice ao (l.map (·.1)).length cp ∧ Ims w (fun d => base ≤ d) B ao (l.map (·.1)) ∧ Fit ao (l.map (·.1)).length cp ∧ (0 < l.length → base ≤ B) := by
  have hlen : (l.map (·.1)).length = l.length := by simp
  rcases own_form h.own with ⟨rfl, h0⟩ | ⟨g, cap, rfl, hb, hg, h1, h2⟩
  · have e : l = [] := List.eq_nil_of_length_eq_zero h0
    subst e
    exact ⟨0, none, 0, rfl, Ims.nil _ _ _ _, ⟨fun _ => rfl, by simp, by simp⟩, fun h => absurd h (by simp)⟩
  · refine ⟨g, some ⟨g, 0, none⟩, cap, by rw [hlen], ⟨fun _ => ⟨0, rfl, fun j hj => ?_⟩, fun _ => hg, by rw [hlen]; exact hl⟩, ⟨(fun h => by cases h), by rw [hlen]; exact h1, h2⟩, fun _ => hb⟩
    have hj' : j < l.length := by rw [hlen] at hj; exact hj
    have hz : (l.map (·.1))[j] = l[j].1 := by simp
    have he := h.each l[j] (List.getElem_mem hj')
    have hc : ∀ i u, i < 7 → (imc l[j])[i]? = some u → w.cell? ⟨g, j * 7 + i, none⟩ = some u := fun i u hi hu =>
      own_cell h.own (j * 7 + i) u (by rw [flat_at imc 7 (fun _ => rfl) l j i hj' hi]; exact hu)
    rw [hz, Nat.zero_add]
    exact ⟨l[j].2.1, l[j].2.2.1, l[j].2.2.2, ⟨hc 0 _ (by omega) rfl, hc 1 _ (by omega) rfl, hc 2 _ (by omega) rfl, hc 3 _ (by omega) rfl, hc 4 _ (by omega) rfl, hc 5 _ (by omega) rfl, hc 6 _ (by omega) rfl, he.strs, he.fit, he.high, he.lsn⟩, he.ge⟩
theorem Tryz.infoImage : (Tryz.prog.info? 183).map (fun i => (i.zero, i.size, i.bytes)) = some (some (.agg #[.int .i64 0, .int .i64 0, .int .i64 0, .int .i64 0, .int .i64 0, .string ⟨#[]⟩, .slice none 0 0]), 7, 80) := by kernel_rfl
theorem append_image (w : World) (ty : TypeId) (base : Nat) (v : Value) (l : List Lm) (h : Li w base v l) (z : Lm) (hz : LmAt w base v z) (hroom : l.length ≤ 100000) (hbase : base ≤ w.heap.size) :
    ∃ v' w', (Builtin.append_ #[55, 55] ty #[v, .slice (some ⟨w.heap.size, 0, none⟩) 1 1]).run Tryz.prog (w.alloc (.cells #[.int .i64 z.1.page, .int .i64 z.1.body.lsn, .int .i64 z.1.body.kind, .int .i64 z.1.body.level, .int .i64 z.1.body.right, .string z.1.body.high, .slice z.2.2.1 z.1.body.items.length z.2.2.2] 183)) = .ok v' w' ∧ Li w' base v' (l ++ [z]) ∧ Only (fun k => base ≤ k) w w' := by
  obtain ⟨i0, hi, hz0, hz1, hz2⟩ := info_parts Tryz.infoImage
  have hA := onlyA w (.cells #[.int .i64 z.1.page, .int .i64 z.1.body.lsn, .int .i64 z.1.body.kind, .int .i64 z.1.body.level, .int .i64 z.1.body.right, .string z.1.body.high, .slice z.2.2.1 z.1.body.items.length z.2.2.2] 183)
  have h' := own_kept h.own hA (fun _ _ h => h)
  obtain ⟨v', w', hr, h2, h3, _, h5⟩ := run_append_own_at (P := Tryz.prog) _ base 55 ty 183 i0 (.agg #[.int .i64 0, .int .i64 0, .int .i64 0, .int .i64 0, .int .i64 0, .string ⟨#[]⟩, .slice none 0 0]) 7 80 Tryz.underlying55 hi hz0 hz1 hz2 rfl (by decide) v l.length _ h' ⟨w.heap.size, 0, none⟩ 1 1 (imc z) rfl
    (fun j u hu => by
      match j, hu with
      | 0, hu => simp [imc] at hu; rw [← hu, add_at]; simp
      | 1, hu => simp [imc] at hu; rw [← hu, add_at]; simp
      | 2, hu => simp [imc] at hu; rw [← hu, add_at]; simp
      | 3, hu => simp [imc] at hu; rw [← hu, add_at]; simp
      | 4, hu => simp [imc] at hu; rw [← hu, add_at]; simp
      | 5, hu => simp [imc] at hu; rw [← hu, add_at]; simp
      | 6, hu => simp [imc] at hu; rw [← hu, add_at]; simp) (by intro u hu; simp [imc] at hu; rcases hu with rfl | rfl | rfl | rfl | rfl | rfl | rfl <;> rfl) (by unfold maxLen; omega) (by omega) (by simp; omega)
  have hg : Only (fun k => v.ownBlock = some k) (w.alloc (.cells #[.int .i64 z.1.page, .int .i64 z.1.body.lsn, .int .i64 z.1.body.kind, .int .i64 z.1.body.level, .int .i64 z.1.body.right, .string z.1.body.high, .slice z.2.2.1 z.1.body.items.length z.2.2.2] 183)) w' := Only.grown (S := fun k => v.ownBlock = some k) h3 (fun k hk => hk)
  have hsz : (w.alloc (.cells #[.int .i64 z.1.page, .int .i64 z.1.body.lsn, .int .i64 z.1.body.kind, .int .i64 z.1.body.level, .int .i64 z.1.body.right, .string z.1.body.high, .slice z.2.2.1 z.1.body.items.length z.2.2.2] 183)).heap.size = w.heap.size + 1 := by simp
  have one : ∀ x : Lm, LmAt w base v x → LmAt w' base v' x := fun x hx => by
    obtain ⟨k1, k2, k3, k4, k5, k6⟩ := hx
    refine ⟨(k1.more hA).kept hg (fun h0 => k4 h0), k2, k3, fun h0 => ?_, k5, k6⟩
    rcases h5 with e | e
    · rw [e]; exact k4 h0
    · rw [e, hsz]
      intro e2
      injection e2 with e2
      have := k1.lt h0
      omega
  refine ⟨v', w', hr, ⟨?_, fun x hx => ?_⟩, (Only.alloc (fun k => base ≤ k) w _).trans (Only.grown (S := fun k => base ≤ k) h3 (fun k hk => (World.ownsRow.lt h' k hk).1)) (fun _ _ h => h)⟩
  · have e : l.length + 1 = (l ++ [z]).length := by simp
    have e2 : (l ++ [z]).flatMap imc = l.flatMap imc ++ imc z := by simp
    rw [e2, ← e]
    exact h2
  · rcases List.mem_append.1 hx with hx | hx
    · exact one x (h.each x hx)
    · simp at hx; subst hx; exact one x hz
end Go.Proofs.YtbfafijfhaejmaaGreatDoor
