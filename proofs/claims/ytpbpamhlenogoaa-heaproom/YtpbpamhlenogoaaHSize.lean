/- Whether a page is one of versions, an empty one, and how many bytes a page has with an item in a slot. -/
import Derived.Test.YtpbpamhlenogoaaHRec
import Derived.Test.YtpbpamhlenogoaaPEnc
import Derived.Test.YtpbpamhlenogoaaPPut
namespace Go.Proofs.Ytpbpamhlenogoaa
open Go.RowKit

/-- A page as a value. -/
abbrev pv (a k v r : Int) (h : ByteArray) (ao : Option Addr) (n cp : Nat) : Value := .agg #[.int .i64 a, .int .i64 k, .int .i64 v, .int .i64 r, .string h, .slice ao n cp]
theorem isHeap_any (w : World) (a k v r : Int) (h : ByteArray) (ao : Option Addr) (n cp : Nat) :
    Calls Try.prog 15 #[pv a k v r h ao n cp] w fun e w' => e = .returned (.bool (k == 2)) ∧ Only (fun _ => False) w w' := by
  go_enter Try.func15, Try.ntmps15
  go_wp2
  go_ret
  exact ⟨rfl, onlyA _ _⟩
theorem tooLong_many (w : World) (a k v r : Int) (h : ByteArray) (ao : Option Addr) (n cp : Nat) (hn : (255 : Int) < (n : Int)) :
    Calls Try.prog 21 #[pv a k v r h ao n cp] w fun e w' => e = .returned (.bool true) ∧ Only (fun _ => False) w w' := by
  go_enter Try.func21, Try.ntmps21
  go_wp2_with fail
  go_ret
  exact ⟨rfl, onlyA _ _⟩
set_option maxRecDepth 100000 in
set_option maxHeartbeats 800000 in
theorem pencode_many (w : World) (h : ByteArray) (ao : Option Addr) (n cp : Nat) (hn : (255 : Int) < (n : Int)) :
    Calls Try.prog 9 #[pv 0 2 0 0 h ao n cp] w fun e w' => e = .returned (.tuple #[.string ⟨#[]⟩, .int .i64 3]) ∧ Only (fun _ => False) w w' := by
  have HP := hide (Pag.new w (.int .i64 0) (.int .i64 2) (.int .i64 0) (.int .i64 0) (.string h) (.slice ao n cp))
  have HO0 := hide (onlyA w (.cells #[.int .i64 0, .int .i64 2, .int .i64 0, .int .i64 0, .string h, .slice ao n cp] 24))
  have HN := hide hn
  clear hn
  go_enter Try.func9, Try.ntmps9
  go_wp2_with fail
  refine (inRange_any _ 0 2 0 0 h cp n ao).mono ?_
  rintro e w1 ⟨rfl, ho1⟩
  obtain ⟨p0, p1, p2, p3, p4, p5, _⟩ := HP.out.more ho1
  have HO1 := hide (o2 HO0.out ho1)
  clear ho1
  rw [show decide ((0 : Int) ≤ 0 ∧ (1 : Int) ≤ 2 ∧ (2 : Int) ≤ 3 ∧ (0 : Int) ≤ 0 ∧ (0 : Int) ≤ 255 ∧ (0 : Int) ≤ 0 ∧ (0 : Int) ≤ 4294967295) = true from by decide]
  by_cases hh : (255 : Int) < (h.size : Int)
  · go_wp2_with fail
    go_ret2
    exact ⟨rfl, HO1.out⟩
  · go_wp2_with fail
    refine (tooLong_many _ 0 2 0 0 h ao n cp HN.out).mono ?_
    rintro e w2 ⟨rfl, ho2⟩
    have HO2 := hide (o2 HO1.out ho2)
    clear ho2 p0 p1 p2 p3 p4 p5
    go_wp2_with fail
    go_ret2
    exact ⟨rfl, HO2.out⟩
/-- What a new list can be asked, as a page of versions. -/
structure WithL (W : World) (h : ByteArray) (v : Value) (L : List ByteArray) (ao : Option Addr) (cp : Nat) : Prop where
  val : v = .slice ao L.length cp
  enc : ∀ W', Only (fun _ => False) W W' → Calls Try.prog 9 #[pv 0 2 0 0 h ao L.length cp] W' fun e w' => (∃ s, e = .returned (.tuple #[.string s, .int .i64 (if fitL h L then 0 else 3)])) ∧ Only (fun _ => False) W' w'
  size : fitL h L = true → ∀ W', Only (fun _ => False) W W' → Calls Try.prog 33 #[pv 0 2 0 0 h ao L.length cp] W' fun e w' => e = .returned (.int .i64 ((20 + h.size + isz L : Nat) : Int)) ∧ Only (fun _ => False) W' w'
theorem WithL.of {W : World} {base : Nat} {v : Value} {L : List ByteArray} (h : ByteArray) (hh : h.size ≤ 140737488355328) (hL : Ls W base v L) (hs : ∀ s ∈ L, s.size ≤ 140737488355328) : ∃ ao cp, WithL W h v L ao cp := by
  by_cases hn : L.length ≤ 255
  · obtain ⟨B, ao, cp, rfl, hS, hF, _, _⟩ := hL.strs (by omega) hs
    refine ⟨ao, cp, rfl, fun W' ho => ?_, fun hf W' ho => ?_⟩
    · refine (pencode_any W' 0 2 0 0 h B cp ao L (hS.more ho) hh (by omega)).mono ?_
      rintro e w' ⟨rfl, ho'⟩
      refine ⟨⟨str (Pg.out ⟨0, 2, 0, 0, h, L⟩).1, ?_⟩, ho'⟩
      have hr : Pg.inRange ⟨0, 2, 0, 0, h, L⟩ := by unfold Pg.inRange; simp
      have : (Pg.out ⟨0, 2, 0, 0, h, L⟩).2 = (if fitL h L then 0 else 3) := by
        cases hf : fitL h L
        · rw [out_long hr (fitL_no.1 hf)]; rfl
        · rw [out_ok hr (fitL_iff.1 hf)]; rfl
      rw [this]
    · refine (psize_any W' 0 2 0 0 h B cp ao L (hS.more ho) hh).mono ?_
      rintro e w' ⟨rfl, ho'⟩
      refine ⟨?_, ho'⟩
      rw [w64_few hs hh hn]
      push_cast
      rfl
  · have hv : ∃ ao cp, v = .slice ao L.length cp := by
      rcases hL.2 with ⟨rfl, h0⟩ | ⟨g, cap, cur, rfl, _⟩
      · exact absurd h0 (by omega)
      · exact ⟨_, _, rfl⟩
    obtain ⟨ao, cp, rfl⟩ := hv
    have hf : fitL h L = false := fitL_no.2 (by omega)
    refine ⟨ao, cp, rfl, fun W' ho => ?_, fun hf' => by rw [hf] at hf'; cases hf'⟩
    refine (pencode_many W' h ao L.length cp (by omega)).mono ?_
    rintro e w' ⟨rfl, ho'⟩
    rw [hf]
    exact ⟨⟨_, rfl⟩, ho'⟩
theorem putL_drop (l : List ByteArray) (i m : Nat) (s : ByteArray) (hi : i ≤ l.length) (hm : m = min (i + 1) l.length) : l.take i ++ [s] ++ l.drop m = putL l i s := by
  unfold putL
  rw [List.append_assoc, List.singleton_append]
  by_cases h : i < l.length
  · rw [show m = i + 1 by omega]
  · rw [List.drop_of_length_le (by omega), List.drop_of_length_le (by omega)]
theorem putL_mem {l : List ByteArray} {i : Nat} {s x : ByteArray} (h : x ∈ putL l i s) : x = s ∨ x ∈ l := by
  unfold putL at h
  rcases List.mem_append.1 h with h | h
  · exact .inr (List.mem_of_mem_take h)
  · rcases List.mem_cons.1 h with h | h
    · exact .inl h
    · exact .inr (List.mem_of_mem_drop h)
/-- The three parts put together. -/
theorem with_cat (W0 : World) (B cp : Nat) (ao A2 : Option Addr) (l : List ByteArray) (i m : Nat) (s : ByteArray) (hS : Strs W0 B ao l) (hF : Fit ao l.length cp) (hs : s.size ≤ 140737488355328) (hi : i ≤ l.length) (hm : m = min (i + 1) l.length)
    (hA : ∀ b o, ao = some ⟨b, o, none⟩ → m < l.length → A2 = some ⟨b, o + m, none⟩) (hA0 : A2 = none → ao = none) (W : World)
    (hW : W = (W0.alloc (.cells #[.string s] 9)).alloc (.cells #[.slice ao i cp, .slice (some ⟨W0.heap.size, 0, none⟩) 1 1, .slice A2 (l.length - m) (cp - m)] 22)) :
    Calls Try.prog 32 #[.slice (some ⟨W0.heap.size + 1, 0, none⟩) 3 3] W fun e w' => ∃ v, e = .returned v ∧ Ls w' W.heap.size v (putL l i s) ∧ Only (fun _ => False) W0 w' := by
  have hlen := hS.len
  have hcp := hF.le
  have hbig := hF.big
  have hS1 := (Strs.one W0 s hs).more (onlyA _ (.cells #[.slice ao i cp, .slice (some ⟨W0.heap.size, 0, none⟩) 1 1, .slice A2 (l.length - m) (cp - m)] 22))
  have ho : Only (fun _ => False) W0 W := by rw [hW]; exact o2 (onlyA _ _) (onlyA _ _)
  rw [← hW] at hS1
  have hS2 := hS.more ho
  have hz1 : (W0.alloc (.cells #[.string s] 9)).heap.size = W0.heap.size + 1 := by simp
  have hlt : W0.heap.size + 1 < W.heap.size := by rw [hW]; simp
  have hc : ∀ j (x : Value), #[Value.slice ao i cp, .slice (some ⟨W0.heap.size, 0, none⟩) 1 1, .slice A2 (l.length - m) (cp - m)][j]? = some x → W.cell? ⟨W0.heap.size + 1, j, none⟩ = some x := by
    intro j x hx
    rw [hW, ← hz1]
    simpa using hx
  have hSd : Strs W B A2 (l.drop m) := by
    by_cases h0 : m < l.length
    · obtain ⟨o, e, _⟩ := hS.at_ (by omega)
      rw [e] at hS2
      exact hS2.drop m A2 (fun hk => hA B o e hk)
    · rw [List.drop_of_length_le (by omega)]
      exact Strs.nil _ _ _
  have key := cat3 W (W0.heap.size + 1) ao (some ⟨W0.heap.size, 0, none⟩) A2 cp 1 (cp - m) B W0.heap.size B i 1 (l.length - m) (l.take i) [s] (l.drop m)
    (by simp; omega) rfl (by simp) (hc 0 _ rfl) (hc 1 _ rfl) (hc 2 _ rfl) (hS2.take i) hS1 hSd
    ⟨hF.nil, by omega, hbig⟩ ⟨(fun h => by cases h), by omega, (by unfold maxLen; omega)⟩ ⟨(fun h => by have := hF.nil (hA0 h); omega), by omega, by omega⟩ hlt (by omega)
  rw [putL_drop l i m s hi hm] at key
  refine Calls.mono key ?_
  rintro e w5 ⟨v5, rfl, hl5, ho5⟩
  exact ⟨v5, rfl, hl5, o2 ho ho5⟩
end Go.Proofs.Ytpbpamhlenogoaa
