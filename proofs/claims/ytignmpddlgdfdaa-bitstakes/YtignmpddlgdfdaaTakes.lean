/- Walk of BitsTakes. -/
import Derived.Test.YtignmpddlgdfdaaRefD
import Derived.Test.YtignmpddlgdfdaaItems
import Derived.Deep.QuietTactic
import Derived.BigQuiet
import Derived.Deep.RegionWith
import Derived.Deep.DeepCutAuto
import Derived.Deep.LoopGhost
namespace Go.Proofs.Ytignmpddlgdfdaa
open Go.RowKit

/-- The Reader and the document's one, in step: what is left of the bytes, and what is wrong. -/
structure Two (w w' : World) (r x : Nat) (s : ByteArray) (l : List UInt8) (y : Int) : Prop where
  rd : Rd w' r ⟨l.toArray⟩ y
  xr : ∃ p, XR w' x s p y ∧ (y = 0 → p ≤ s.size ∧ s.data.toList.drop p = l)
  only : Only (fun _ => False) w w'
  ne : r ≠ x
  rGe : w.heap.size ≤ r
  xGe : w.heap.size ≤ x
  nil : y ≠ 0 → l = []

theorem Two.num {w w1 w2 w3 : World} {r x : Nat} {s : ByteArray} {l l' : List UInt8} {y' : Int} (h : Two w w1 r x s l 0) (hR : Rd w2 r ⟨l'.toArray⟩ y') (ho : Only (fun k => k = r) w1 w2) (hX : XPost w2 w3 x s l' y') (hn : y' ≠ 0 → l' = []) : Two w w3 r x s l' y' := by
  obtain ⟨p', hx1, hx2, hx3⟩ := hX
  have hw := (h.only.trans ho (fun i hi e => by subst e; have := h.rGe; omega)).trans hx3 (fun i hi e => by subst e; have := h.xGe; omega)
  exact ⟨hR.kept hx3 h.ne, ⟨p', hx1, hx2⟩, hw, h.ne, h.rGe, h.xGe, hn⟩
theorem Two.more {w w1 w2 : World} {r x : Nat} {s : ByteArray} {l : List UInt8} {y : Int} (h : Two w w1 r x s l y) (ho : Only (fun _ => False) w1 w2) : Two w w2 r x s l y := by
  obtain ⟨p, h1, h2⟩ := h.xr
  exact ⟨h.rd.kept ho (fun h => h), ⟨p, h1.kept ho (fun h => h), h2⟩, h.only.trans ho (fun _ _ h => h), h.ne, h.rGe, h.xGe, h.nil⟩

theorem oneMore {w W : World} {n : Nat} (h : W = (w.drewN n).drew) : ∃ m, W = (w.drewN n).drewN m := ⟨1, h⟩
/-- What End answers. -/
def fin (l : List UInt8) (y : Int) : Int := if y = 0 then (if l.length = 0 then 0 else 12) else y

theorem q_left {w wr : World} {r x : Nat} {s : ByteArray} {l : List UInt8} {y : Int} (h : Two w wr r x s l y) (n : Nat) :
    Calls Try.prog 27 #[.pointer (some ⟨r, 0, none⟩)] (wr.drewN n) fun e w'' => e = .returned (.int .i64 (l.length : Int)) ∧ ∃ m, w'' = wr.drewN m :=
  Calls.quiet_of_same ((rleft_any _ r _ ((h.rd.kept (onlyN wr n) (fun h => h)).c0)).mono fun _ _ ⟨he, hw⟩ => ⟨he, hw⟩)
theorem q_err {w wr : World} {r x : Nat} {s : ByteArray} {l : List UInt8} {y : Int} (h : Two w wr r x s l y) (n : Nat) :
    Calls Try.prog 29 #[.pointer (some ⟨r, 0, none⟩)] (wr.drewN n) fun e w'' => e = .returned (.int .i64 y) ∧ ∃ m, w'' = wr.drewN m :=
  Calls.quiet_of_same (rerr_any _ r _ ((h.rd.kept (onlyN wr n) (fun h => h)).c1))
theorem q_end {w wr : World} {r x : Nat} {s : ByteArray} {l : List UInt8} {y : Int} (h : Two w wr r x s l y) (n : Nat) :
    Calls Try.prog 30 #[.pointer (some ⟨r, 0, none⟩)] (wr.drewN n) fun e w'' => e = .returned (.int .i64 (fin l y)) ∧ ∃ m, w'' = wr.drewN m := by
  have hr := h.rd.kept (onlyN wr n) (fun h => h)
  unfold fin
  by_cases hy : y = 0
  · rw [if_pos hy]
    rw [hy] at hr
    exact Calls.quiet_of_same (rend_ok _ r _ hr.c1 hr.c0)
  · rw [if_neg hy]
    exact Calls.quiet_of_same (rend_err _ r y hr.c1 (by simpa using hy))
theorem q_xleft {w wr : World} {r x : Nat} {s : ByteArray} {l : List UInt8} {y : Int} (h : Two w wr r x s l y) (hs : s.size ≤ maxLen - 100) (n : Nat) :
    Calls Try.prog 28 #[.pointer (some ⟨x, 0, none⟩)] (wr.drewN n) fun e w'' => e = .returned (.int .i64 (l.length : Int)) ∧ ∃ m, w'' = wr.drewN m := by
  obtain ⟨p, hx, hp⟩ := h.xr
  have hx' := hx.kept (onlyN wr n) (fun h => h)
  by_cases hy : y = 0
  · obtain ⟨h1, h2⟩ := hp hy
    rw [hy] at hx'
    have e : ((s.size - p : Nat) : Int) = (l.length : Int) := by rw [← h2]; simp
    have hc := xleft_ok _ x s p hx' h1 (by unfold maxLen at hs ⊢; omega)
    rw [e] at hc
    exact Calls.quiet_of (hc.mono fun _ _ ⟨he, hw⟩ => ⟨he, oneMore hw⟩)
  · have e : l = [] := h.nil hy
    rw [e]
    exact Calls.quiet_of_same (xleft_err _ x s p y hx' (by simpa using hy))
theorem q_xend {w wr : World} {r x : Nat} {s : ByteArray} {l : List UInt8} {y : Int} (h : Two w wr r x s l y) (n : Nat) :
    Calls Try.prog 31 #[.pointer (some ⟨x, 0, none⟩)] (wr.drewN n) fun e w'' => e = .returned (.int .i64 (fin l y)) ∧ ∃ m, w'' = wr.drewN m := by
  obtain ⟨p, hx, hp⟩ := h.xr
  have hx' := hx.kept (onlyN wr n) (fun h => h)
  unfold fin
  by_cases hy : y = 0
  · obtain ⟨h1, h2⟩ := hp hy
    rw [if_pos hy]
    rw [hy] at hx'
    have e : s.size - p = l.length := by rw [← h2]; simp
    have hc := xend_ok _ x s p hx' h1
    rw [e] at hc
    exact Calls.quiet_of (hc.mono fun _ _ ⟨he, hw⟩ => ⟨he, oneMore hw⟩)
  · rw [if_neg hy]
    exact Calls.quiet_of ((xend_err _ x s p y hx' (by simpa using hy)).mono fun _ _ ⟨he, hw⟩ => ⟨he, oneMore hw⟩)

/-- What Num makes of the state: the number, what is left, what is wrong. -/
def stN (z : Int) (l : List UInt8) (y : Int) : Int × List UInt8 × Int := if y = 0 then rdN z l else (0, l, y)
def stT (z : Int) (l : List UInt8) (y : Int) : List UInt8 × List UInt8 × Int := if y = 0 then rdT z l else ([], l, y)
theorem rdT_errs (z : Int) (l : List UInt8) (h : (rdT z l).2.2 ≠ 0) : (rdT z l).2.1 = [] := by
  unfold rdT at h ⊢
  split
  · split
    · rfl
    · rename_i h1 h2
      rw [if_pos h1, if_neg h2] at h
      exact absurd rfl h
  · rfl
/-- The Reader has taken something, the document's one has not yet. -/
structure Half (w w' : World) (r x : Nat) (s : ByteArray) (l : List UInt8) (y : Int) (l' : List UInt8) (y' : Int) : Prop where
  rd : Rd w' r ⟨l'.toArray⟩ y'
  xr : ∃ p, XR w' x s p y ∧ (y = 0 → p ≤ s.size ∧ s.data.toList.drop p = l)
  only : Only (fun _ => False) w w'
  ne : r ≠ x
  rGe : w.heap.size ≤ r
  xGe : w.heap.size ≤ x
theorem Two.half {w w1 w2 : World} {r x : Nat} {s : ByteArray} {l l' : List UInt8} {y y' : Int} (h : Two w w1 r x s l y) (hR : Rd w2 r ⟨l'.toArray⟩ y') (ho : Only (fun k => k = r) w1 w2) : Half w w2 r x s l y l' y' := by
  obtain ⟨p, h1, h2⟩ := h.xr
  exact ⟨hR, ⟨p, h1.kept ho (fun e => h.ne e.symm), h2⟩, h.only.trans ho (fun i hi e => by subst e; have := h.rGe; omega), h.ne, h.rGe, h.xGe⟩
theorem c_num {w W : World} {r x : Nat} {s : ByteArray} {l : List UInt8} {y : Int} (z : Int) (h : Two w W r x s l y) :
    Calls Try.prog 23 #[.pointer (some ⟨r, 0, none⟩), .int .i64 z] W fun e w' => e = .returned (.int .i64 (stN z l y).1) ∧ Half w w' r x s l y (stN z l y).2.1 (stN z l y).2.2 := by
  unfold stN
  by_cases hy : y = 0
  · rw [if_pos hy]
    have hr := h.rd
    rw [hy] at hr
    refine (rnum_any W r _ z hr).mono ?_
    rintro e w' ⟨he, h1, h2⟩
    exact ⟨he, h.half h1 h2⟩
  · rw [if_neg hy]
    refine (rnum_err W r y z h.rd.c1 (by simpa using hy)).mono ?_
    rintro e w' ⟨he, rfl⟩
    exact ⟨he, h.half h.rd (Only.refl _ _)⟩
theorem c_text {w W : World} {r x : Nat} {s : ByteArray} {l : List UInt8} {y : Int} (z : Int) (h : Two w W r x s l y) :
    Calls Try.prog 25 #[.pointer (some ⟨r, 0, none⟩), .int .i64 z] W fun e w' => e = .returned (.string ⟨(stT z l y).1.toArray⟩) ∧ Half w w' r x s l y (stT z l y).2.1 (stT z l y).2.2 := by
  unfold stT
  by_cases hy : y = 0
  · rw [if_pos hy]
    have hr := h.rd
    rw [hy] at hr
    refine (rtext_any W r _ z hr).mono ?_
    rintro e w' ⟨he, h1, h2⟩
    exact ⟨he, h.half h1 h2⟩
  · rw [if_neg hy]
    refine (rtext_err W r y z h.rd.c1 (by simpa using hy)).mono ?_
    rintro e w' ⟨he, rfl⟩
    exact ⟨he, h.half h.rd (Only.refl _ _)⟩
theorem c_xnum {w W : World} {r x : Nat} {s : ByteArray} {l : List UInt8} {y : Int} (z : Int) (hs : s.size ≤ maxLen - 100) (hn : y ≠ 0 → l = []) (h : Half w W r x s l y (stN z l y).2.1 (stN z l y).2.2) :
    Calls Try.prog 24 #[.pointer (some ⟨x, 0, none⟩), .int .i64 z] W fun e w' => e = .returned (.int .i64 (stN z l y).1) ∧ Two w w' r x s (stN z l y).2.1 (stN z l y).2.2 := by
  obtain ⟨p, h1, h2⟩ := h.xr
  by_cases hy : y = 0
  · have e : stN z l y = rdN z l := by unfold stN; rw [if_pos hy]
    rw [e] at h ⊢
    obtain ⟨h3, h4⟩ := h2 hy
    rw [hy] at h1
    have hc := xnum_any W x s p z h1 h3 hs
    rw [h4] at hc
    refine hc.mono ?_
    rintro e w' ⟨he, p', h5, h6, h7⟩
    exact ⟨he, h.rd.kept h7 h.ne, ⟨p', h5, h6⟩, h.only.trans h7 (fun i hi e => by subst e; have := h.xGe; omega), h.ne, h.rGe, h.xGe, rdN_errs z l⟩
  · have e : stN z l y = (0, l, y) := by unfold stN; rw [if_neg hy]
    rw [e] at h ⊢
    refine (xnum_err W x s p y z h1 (by simpa using hy)).mono ?_
    rintro e w' ⟨he, rfl⟩
    exact ⟨he, h.rd, ⟨p, h1, h2⟩, h.only, h.ne, h.rGe, h.xGe, hn⟩
theorem c_xtext {w W : World} {r x : Nat} {s : ByteArray} {l : List UInt8} {y : Int} (z : Int) (hs : s.size ≤ maxLen - 100) (hn : y ≠ 0 → l = []) (h : Half w W r x s l y (stT z l y).2.1 (stT z l y).2.2) :
    Calls Try.prog 26 #[.pointer (some ⟨x, 0, none⟩), .int .i64 z] W fun e w' => e = .returned (.string ⟨(stT z l y).1.toArray⟩) ∧ Two w w' r x s (stT z l y).2.1 (stT z l y).2.2 := by
  obtain ⟨p, h1, h2⟩ := h.xr
  by_cases hy : y = 0
  · have e : stT z l y = rdT z l := by unfold stT; rw [if_pos hy]
    rw [e] at h ⊢
    obtain ⟨h3, h4⟩ := h2 hy
    rw [hy] at h1
    have hc := xtext_any W x s p z h1 h3 hs
    rw [h4] at hc
    refine hc.mono ?_
    rintro e w' ⟨he, p', h5, h6, h7⟩
    exact ⟨he, h.rd.kept h7 h.ne, ⟨p', h5, h6⟩, h.only.trans h7 (fun i hi e => by subst e; have := h.xGe; omega), h.ne, h.rGe, h.xGe, rdT_errs z l⟩
  · have e : stT z l y = ([], l, y) := by unfold stT; rw [if_neg hy]
    rw [e] at h ⊢
    refine (xtext_err W x s p y z h1 (by simpa using hy) (by simpa using hy)).mono ?_
    rintro e w' ⟨he, ho⟩
    exact ⟨he, h.rd.kept ho (fun h => h), ⟨p, h1.kept ho (fun h => h), h2⟩, h.only.trans ho (fun _ _ h => h), h.ne, h.rGe, h.xGe, hn⟩
theorem Half.only2 {w w' : World} {r x : Nat} {s : ByteArray} {l : List UInt8} {y : Int} {l' : List UInt8} {y' : Int} (h : Half w w' r x s l y l' y') {b o : Nat} {v : Value} (hb : b < w.heap.size) (hc : w.cell? ⟨b, o, none⟩ = some v) : w'.cell? ⟨b, o, none⟩ = some v :=
  (h.only.cell (p := ⟨b, o, none⟩) hb (fun h => h)).trans hc

theorem two_start (w : World) (s : ByteArray) : Two w ((w.alloc (.cells #[.string s, .int .i64 0] 61)).alloc (.cells #[.string s, .int .i64 0, .int .i64 0] 46)) w.heap.size (w.heap.size + 1) s s.data.toList 0 := by
  refine ⟨(Rd.new w s).alloc _, ⟨0, ?_, fun _ => ⟨Nat.zero_le _, rfl⟩⟩, (Only.alloc _ _ _).trans (Only.alloc _ _ _) (fun _ _ h => h) (T := fun _ => False), by omega, Nat.le_refl _, by omega, fun h => absurd rfl h⟩
  have h := XR.new (w.alloc (.cells #[.string s, .int .i64 0] 61)) s
  have e : (w.alloc (.cells #[.string s, .int .i64 0] 61)).heap.size = w.heap.size + 1 := by simp
  rw [e] at h
  exact h

set_option maxRecDepth 100000 in
set_option maxHeartbeats 1600000 in
theorem takes_walk (s : ByteArray) (a : Option Addr) (len cap : Nat) (K N : Nat → Int) (S : Nat → ByteArray) (w : World) (hs : s.size ≤ maxLen - 100) (hlen : len ≤ maxLen) (hI : Its w a len K N S) :
    Calls Try.prog 6 #[.string s, .slice a len cap] w fun e w' => e = .returned (.bool true) ∧ Below w.heap.size w w' := by
  have HI := hide hI
  clear hI
  have HS := hide hs
  clear hs
  go_enter Try.func6, Try.ntmps6
  go_wp2_with fail
  refine (read_any _ _).mono ?_
  rintro e w1 ⟨rfl, rfl⟩
  go_wp2_with fail
  go_loopg [7] len (fun g i wr => ∃ (k : Nat) (l : List UInt8) (y : Int), k ≤ len ∧ g = len - k ∧ i = .int .i64 k ∧ Hid (Two w wr w.heap.size (w.heap.size + 1) s l y))
  case atStart =>
    refine ⟨0, s.data.toList, 0, Nat.zero_le _, by omega, rfl, ?_⟩
    exact two_start w s
  case round =>
    obtain ⟨k, l, y, hk, hg, rfl, HT⟩ := hrel
    by_cases hlt : k < len
    · obtain ⟨b, off, rfl, hbl, hc0, hc1, hc2, hK0, hK1, hN0, hN1, hS⟩ := HI.out k hlt
      have hon := HT.out.only
      have d0 := (hon.cell (p := ⟨b, off + k * 3, none⟩) hbl (fun h => h)).trans hc0
      have d1 := (hon.cell (p := ⟨b, off + k * 3 + 1, none⟩) hbl (fun h => h)).trans hc1
      have HC1 := hide hc1
      clear hc0 hc1 hc2 hon
      unfold maxLen at hlen
      obtain ⟨kk, hkk⟩ : ∃ kk, K k = kk := ⟨_, rfl⟩
      rw [hkk] at d0 hK0 hK1
      obtain ⟨nn, hnn⟩ : ∃ nn, N k = nn := ⟨_, rfl⟩
      rw [hnn] at d1 hN0 hN1
      have HK := hide hkk
      have HC : Hid (w.cell? ⟨b, off + k * 3 + 1, none⟩ = some (.int .i64 nn)) := by unfold Hid; rw [← hnn]; exact HC1.out
      clear hkk hnn
      by_cases h0 : kk % 3 = 0
      · have h0' : (kk % 3 == 0) = true := by simpa using h0
        clear h0
        go_upto_region 10 with fail
        go_cut [43] (fun t wx => t = .bool false ∧ ∃ (l' : List UInt8) (y' : Int), Hid (Two w wx w.heap.size (w.heap.size + 1) s l' y'))
        case first =>
          go_region_with (first
            | (go_at_call 23; refine (c_num (w := w) (x := w.heap.size + 1) (s := s) (l := l) (y := y) nn ?_).mono ?_; exact HT.out.more (Only.drew _ _); rintro e W2 ⟨rfl, hH⟩; have d1' := hH.only2 hbl HC.out)
            | (go_at_call 24; refine (c_xnum (w := w) (r := w.heap.size) (l := l) (y := y) nn (unhide HS) HT.out.nil ?_).mono ?_; exact hH; rintro e W3 ⟨rfl, hT3⟩))
          all_goals (try go_wp2_with fail)
          all_goals go_meet
          all_goals exact ⟨rfl, _, _, hT3⟩
        case rest =>
          obtain ⟨rfl, l', y', HT'⟩ := hcut
          obtain ⟨p, hx, hp⟩ := HT'.out.xr
          have x2 := hx.c2
          clear hx hp
          go_wp2_with fail
          go_quiet (first
            | (go_at_call 27; exact q_left HT'.out _)
            | (go_at_call 29; exact q_err HT'.out _)
            | (go_at_call 30; exact q_end HT'.out _)
            | (go_at_call 28; exact q_xleft HT'.out (unhide HS) _)
            | (go_at_call 31; exact q_xend HT'.out _))
          go_wp2
          go_roundg (len - (k + 1))
          case measure => omega
          case rel => exact ⟨k + 1, _, _, by omega, rfl, by go_num, HT'.out.more (onlyN _ _)⟩
      · by_cases h1 : kk % 3 = 1
        · have h0' : (kk % 3 == 0) = false := by simpa using h0
          have h1' : (kk % 3 == 1) = true := by simpa using h1
          clear h0 h1
          go_upto_region 13 with fail
          go_cut [60] (fun t wx => t = .bool false ∧ ∃ (l' : List UInt8) (y' : Int), Hid (Two w wx w.heap.size (w.heap.size + 1) s l' y'))
          case first =>
            go_region_with (first
              | (go_at_call 25; refine (c_text (w := w) (x := w.heap.size + 1) (s := s) (l := l) (y := y) nn ?_).mono ?_; exact HT.out.more (Only.drew _ _); rintro e W2 ⟨rfl, hH⟩; have d1' := hH.only2 hbl HC.out)
              | (go_at_call 26; refine (c_xtext (w := w) (r := w.heap.size) (l := l) (y := y) nn (unhide HS) HT.out.nil ?_).mono ?_; exact hH; rintro e W3 ⟨rfl, hT3⟩))
            all_goals (try go_wp2_with fail)
            all_goals go_meet
            all_goals exact ⟨rfl, _, _, hT3⟩
          case rest =>
            obtain ⟨rfl, l', y', HT'⟩ := hcut
            obtain ⟨p, hx, hp⟩ := HT'.out.xr
            have x2 := hx.c2
            clear hx hp
            go_wp2_with fail
            go_quiet (first
              | (go_at_call 27; exact q_left HT'.out _)
              | (go_at_call 29; exact q_err HT'.out _)
              | (go_at_call 30; exact q_end HT'.out _)
              | (go_at_call 28; exact q_xleft HT'.out (unhide HS) _)
              | (go_at_call 31; exact q_xend HT'.out _))
            go_wp2
            go_roundg (len - (k + 1))
            case measure => omega
            case rel => exact ⟨k + 1, _, _, by omega, rfl, by go_num, HT'.out.more (onlyN _ _)⟩
        · have h0' : (kk % 3 == 0) = false := by simpa using h0
          have h1' : (kk % 3 == 1) = false := by simpa using h1
          clear h0 h1
          obtain ⟨p, hx, hp⟩ := HT.out.xr
          have x2 := hx.c2
          clear hx hp
          go_wp2_with fail
          go_quiet (first
            | (go_at_call 27; exact q_left HT.out _)
            | (go_at_call 29; exact q_err HT.out _)
            | (go_at_call 30; exact q_end HT.out _)
            | (go_at_call 28; exact q_xleft HT.out (unhide HS) _)
            | (go_at_call 31; exact q_xend HT.out _))
          go_wp2
          go_roundg (len - (k + 1))
          case measure => omega
          case rel => exact ⟨k + 1, _, _, by omega, rfl, by go_num, HT.out.more (onlyN _ _)⟩
    · go_wp2_with fail
      refine (awake_any _).mono ?_
      rintro e w3 ⟨rfl, ho3⟩
      have hT3 := HT.out.more ho3
      clear ho3
      have HT3 := hide hT3
      clear hT3
      go_wp2_with fail
      refine (q_end (n := 0) HT3.out).mono ?_
      rintro e w4 ⟨rfl, m4, hw4⟩
      have hT4 : Two w w4 w.heap.size (w.heap.size + 1) s l y := by rw [hw4]; exact HT3.out.more (onlyN _ _)
      clear hw4
      have HT4 := hide hT4
      clear hT4
      go_wp2_with fail
      refine (q_xend (n := 0) HT4.out).mono ?_
      rintro e w5 ⟨rfl, m5, hw5⟩
      have hT5 : Two w w5 w.heap.size (w.heap.size + 1) s l y := by rw [hw5]; exact HT4.out.more (onlyN _ _)
      clear hw5
      have HT5 := hide hT5
      clear hT5
      go_wp2_with fail
      go_ret
      exact ⟨rfl, HT5.out.only.below (Nat.le_refl _) (fun _ _ h => h)⟩
end Go.Proofs.Ytignmpddlgdfdaa
