/- A node's split, leaf or inner: Split of package node; Root over both. -/
import Derived.Test.YthjjkhacniebiaaGreatK34
import Derived.Test.YthjjkhacniebiaaGreatK35
import Derived.Test.YthjjkhacniebiaaGreatK36
namespace Go.Proofs.YthjjkhacniebiaaGreat
open Go.RowKit

/-- A node's page and its place. -/
def Nd.z (X : Nd) (a : Int) (ao : Option Addr) (cp : Nat) : Pz := ⟨X.pg a, ao, cp⟩
theorem Nd.left_items (X : Nd) (j : Nat) : (X.left j).items = X.items.take X.half := by
  show (X.ks.take X.half).map (itB X.lv) = (X.ks.map (itB X.lv)).take X.half
  rw [List.map_take]
theorem Nd.right_leaf {X : Nd} (v : X.lv = 0) : X.right.items = X.items.drop X.half := by
  show X.rest.map (itB X.lv) = (X.ks.map (itB X.lv)).drop X.half
  unfold Nd.rest
  rw [if_pos v, List.map_drop]
theorem Nd.right_inner {X : Nd} (v : 0 < X.lv) : X.right.items = noE.encS (X.ks.getD X.half (noE, 0)).2 :: X.items.drop (X.half + 1) := by
  show X.rest.map (itB X.lv) = _ :: (X.ks.map (itB X.lv)).drop (X.half + 1)
  unfold Nd.rest
  rw [if_neg (by omega), List.map_cons, List.map_drop]
  congr 1
  unfold itB
  rw [if_neg (by omega)]
theorem Nd.rest_len {X : Nd} (hn : 2 ≤ X.ks.length) : X.rest.length = X.ks.length - X.half := by
  have hh := Nd.half_lt hn
  unfold Nd.rest
  by_cases v : X.lv = 0
  · rw [if_pos v, List.length_drop]
  · rw [if_neg v, List.length_cons, List.length_drop]; omega
/-- What Split answers of a node. -/
def SpR (w w' : World) (x : Ending) (a : Int) (X : Nd) (j : Nat) : Prop :=
  ∃ ao1 cp1 ao2 cp2, x = .returned (.tuple #[.agg ((X.left j).z a ao1 cp1).ar, .agg (X.right.z a ao2 cp2).ar, X.bord.agg, .int .i64 0]) ∧ At w' (fun k => w.heap.size ≤ k) ((X.left j).z a ao1 cp1) ∧ At w' (fun k => w.heap.size ≤ k) (X.right.z a ao2 cp2) ∧ Only (fun _ => False) w w'
theorem Nm.kokL {X : Nd} (h : X.Kok) (j : Nat) : (X.left j).Kok := fun v k hk => h v k (List.mem_of_mem_take hk)
theorem Nm.kokR {X : Nd} (h : X.Kok) (hn : 2 ≤ X.ks.length) : X.right.Kok := by
  intro v k hk
  rcases Nd.rest_mem hn (show k ∈ X.rest from hk) with q | ⟨_, h1, rfl⟩
  · exact h v k q
  · exact h v (X.ks[X.half]) (List.getElem_mem h1)
theorem hiB_ok {e : En} (h : e.ok = true) : hiB e = e.enc := by unfold hiB; rw [if_neg (En.ok_ne h)]
theorem split_nd (w : World) (a : Int) (X : Nd) (j B cp : Nat) (ao : Option Addr) (hP : Nm w X B ao) (hF : Fit ao X.items.length cp) (hj : okC j = true) (hn : 2 ≤ X.ks.length) :
    Calls Tryz.prog 65 #[.agg #[.int .i64 a, .int .i64 3, .int .i64 X.lv, .int .i64 X.rt, .string (hiB X.hi), .slice ao X.items.length cp], .int .i64 j] w fun x w' => SpR w w' x a X j := by
  obtain ⟨lo, hok⟩ := hP.ok
  have hb := (hok.bord hn).1
  have hh := Nd.half_lt hn
  have hil := Nd.items_len X
  have ehalf : (X.items.length + 1) / 2 = X.half := by rw [hil]; rfl
  have rl := Nd.rest_len hn
  have eL : ∀ ao1 cp1, ((X.left j).z a ao1 cp1).ar = #[.int .i64 a, .int .i64 3, .int .i64 X.lv, .int .i64 j, .string X.bord.enc, .slice ao1 X.half cp1] := by
    intro ao1 cp1
    have l1 : (X.left j).items.length = X.half := by rw [Nd.left_items, List.length_take]; omega
    show (#[.int .i64 a, .int .i64 3, .int .i64 X.lv, .int .i64 j, .string (hiB X.bord), .slice ao1 (X.left j).items.length cp1] : Array Value) = _
    rw [l1, hiB_ok hb]
  have eR : ∀ ao2 cp2, (X.right.z a ao2 cp2).ar = #[.int .i64 a, .int .i64 3, .int .i64 X.lv, .int .i64 X.rt, .string (hiB X.hi), .slice ao2 (X.items.length - X.half) cp2] := by
    intro ao2 cp2
    have l1 : X.right.items.length = X.items.length - X.half := by rw [Nd.items_len]; show X.rest.length = _; omega
    show (#[.int .i64 a, .int .i64 3, .int .i64 X.lv, .int .i64 X.rt, .string (hiB X.hi), .slice ao2 X.right.items.length cp2] : Array Value) = _
    rw [l1]
  have fin : ∀ (x : Ending) (w' : World), SplN w w' x a X.lv X.rt (hiB X.hi) j X.items X.half (X.items.length - X.half) X.bord X.right.items → SpR w w' x a X j := by
    rintro x w' ⟨B1, ao1, cp1, B2, ao2, cp2, rfl, s1, s2, f1, f2, n1, n2, ho⟩
    refine ⟨ao1, cp1, ao2, cp2, by rw [eL, eR], ⟨⟨B1, ?_, fun _ => n1⟩, ?_⟩, ⟨⟨B2, s2, fun _ => n2⟩, ?_⟩, ho⟩
    · show Strs w' B1 ao1 (X.left j).items
      rw [Nd.left_items]; exact s1
    · show Fit ao1 (X.left j).items.length cp1
      rw [Nd.left_items, List.length_take, Nat.min_eq_left (by omega)]; exact f1
    · show Fit ao2 X.right.items.length cp2
      rw [Nd.items_len]
      show Fit ao2 X.rest.length cp2
      rw [rl, ← hil]; exact f2
  rcases Nat.eq_zero_or_pos X.lv with v | v
  · have h := split_leaf w a X.rt (hiB X.hi) X.hi j B cp ao X.items X.es (hP.lp v) hF hj (by omega)
    rw [v, Int.ofNat_zero]
    refine h.mono (fun x w' q => fin x w' ?_)
    rw [ehalf] at q
    rw [v, Int.ofNat_zero, Nd.right_leaf v]
    have e : X.es.getD (X.half - 1) noE = X.bord := by
      unfold Nd.bord
      rw [if_pos v]
      unfold Nd.es
      rw [List.getD_eq_getElem?_getD, List.getD_eq_getElem?_getD, List.getElem?_map]
      cases X.ks[X.half - 1]? <;> rfl
    rw [e] at q
    exact q
  · have h := split_inner w a X.lv X.rt (hiB X.hi) X.hi j B cp ao X.items X.ks (hP.ip v) hF hj (by omega)
    refine h.mono (fun x w' q => fin x w' ?_)
    rw [ehalf] at q
    rw [Nd.right_inner v]
    have e : (X.ks.getD X.half (noE, 0)).1 = X.bord := by
      unfold Nd.bord
      rw [if_neg (by omega)]
    rw [e] at q
    exact q
/-- The node over two. -/
theorem root_nd (w : World) (X : Nd) (i j : Nat) (hv : X.lv + 1 ≤ 255) (hi : okC i = true) (hj : okC j = true) (hb : X.bord.ok = true) :
    Calls Tryz.prog 66 #[.int .i64 ((X.lv : Int) + 1), .int .i64 i, X.bord.agg, .int .i64 j] w fun x w' => ∃ ao cp, x = .returned (.tuple #[.agg ((X.over i j).z 0 ao cp).ar, .int .i64 0]) ∧ At w' (fun k => w.heap.size ≤ k) ((X.over i j).z 0 ao cp) ∧ Only (fun _ => False) w w' := by
  refine (root_ok w ((X.lv : Int) + 1) i j X.bord ⟨by omega, by omega⟩ hi hj hb).mono ?_
  rintro x w' ⟨B, ao, cp, rfl, hs, hf, ho, hB⟩
  have q1 : itB (X.lv + 1) (noE, (i : Int)) = noE.encS i := by unfold itB; rw [if_neg (by omega)]
  have q2 : itB (X.lv + 1) (X.bord, (j : Int)) = X.bord.encS j := by unfold itB; rw [if_neg (by omega)]
  have ei : (X.over i j).items = [noE.encS i, X.bord.encS j] := by
    show [itB (X.lv + 1) (noE, (i : Int)), itB (X.lv + 1) (X.bord, (j : Int))] = _
    rw [q1, q2]
  refine ⟨ao, cp, ?_, ⟨⟨B, ?_, ?_⟩, ?_⟩, ho⟩
  · show _ = Ending.returned (.tuple #[.agg #[.int .i64 0, .int .i64 3, .int .i64 ((X.lv + 1 : Nat) : Int), .int .i64 0, .string (hiB noE), .slice ao (X.over i j).items.length cp], .int .i64 0])
    rw [ei]
    rfl
  · show Strs w' B ao (X.over i j).items
    rw [ei]; exact hs
  · intro _
    exact hB (by simp)
  · show Fit ao (X.over i j).items.length cp
    rw [ei]; exact hf
end Go.Proofs.YthjjkhacniebiaaGreat
