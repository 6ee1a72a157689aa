/- Package blink's isBeyond, with, Need, of a node in memory and any item. -/
import Derived.Test.YthjjkhacniebiaaGreatK34
namespace Go.Proofs.YthjjkhacniebiaaGreat
open Go.RowKit

/-- What may not come into a node. -/
def Nd.bad (X : Nd) (e : En) : Prop := e.ok = false ∨ e ∈ X.es ∨ (X.lv = 0 ∧ byd X.hi e = true) ∨ (0 < X.lv ∧ blw X.hi e = false)
instance (X : Nd) (e : En) : Decidable (X.bad e) := by unfold Nd.bad; infer_instance
/-- What with answers. -/
def WiQ (w w' : World) (x : Ending) (a : Int) (X : Nd) : Option (En × Int) → Prop
  | none => Res w w' x .none 140
  | some k => (X.bad k.1 → Res w w' x .none 140) ∧ (¬ X.bad k.1 → Or3 w w' x (512 < (X.ins k.1 k.2).size) ((X.ins k.1 k.2).pg a))
theorem wi_new (w : World) (v0 v1 v2 v3 v4 v5 : Value) : Pag ((w.alloc (.cells #[v0, v1, v2, v3, v4, v5] 24)).alloc (.cells #[.int .i64 0, .int .i64 0, .int .i64 0, .int .i64 0, .string ⟨#[]⟩, .slice none 0 0] 24)) w.heap.size v0 v1 v2 v3 v4 v5 ∧ Pag ((w.alloc (.cells #[v0, v1, v2, v3, v4, v5] 24)).alloc (.cells #[.int .i64 0, .int .i64 0, .int .i64 0, .int .i64 0, .string ⟨#[]⟩, .slice none 0 0] 24)) (w.heap.size + 1) (.int .i64 0) (.int .i64 0) (.int .i64 0) (.int .i64 0) (.string ⟨#[]⟩) (.slice none 0 0) ∧ Only (fun _ => False) w ((w.alloc (.cells #[v0, v1, v2, v3, v4, v5] 24)).alloc (.cells #[.int .i64 0, .int .i64 0, .int .i64 0, .int .i64 0, .string ⟨#[]⟩, .slice none 0 0] 24)) := by
  refine ⟨(Pag.new w v0 v1 v2 v3 v4 v5).more (onlyA _ _), ?_, o2 (onlyA _ _) (onlyA _ _)⟩
  have e1 := Pag.new (w.alloc (.cells #[v0, v1, v2, v3, v4, v5] 24)) (.int .i64 0) (.int .i64 0) (.int .i64 0) (.int .i64 0) (.string ⟨#[]⟩) (.slice none 0 0)
  rw [World.size_alloc] at e1
  exact e1
theorem InsQ.wi {w w' : World} {x : Ending} {a : Int} {X : Nd} {e : En} {c : Int} (hv : X.lv = 0) (hf : X.ks.length ≤ 82) (q : InsQ w w' x a X.rt (hiB X.hi) X.hi e X.items X.es) : (X.bad e → Res w w' x .none 140) ∧ (¬ X.bad e → Or3 w w' x (512 < (X.ins e c).size) ((X.ins e c).pg a)) := by
  refine ⟨fun b => q.bad ?_, fun b => ?_⟩
  · rcases b with b | b | b | b
    · exact .inl b
    · exact .inr (.inr b)
    · exact .inr (.inl b.2)
    · exact absurd hv (by omega)
  · have h1 : e.ok = true := by
      cases k : e.ok
      · exact absurd (.inl k) b
      · rfl
    have h2 : byd X.hi e = false := by
      cases k : byd X.hi e
      · rfl
      · exact absurd (.inr (.inr (.inl ⟨hv, k⟩))) b
    have g := q.good h1 h2 (fun k => b (.inr (.inl k)))
    have ei : insI X.items X.es e = (X.ins e c).items := by
      rw [Nd.ins_items]
      unfold insI itB
      rw [if_pos hv]
    have el : (X.ins e c).items.length = X.ks.length + 1 := by rw [Nd.items_len]; exact insK_len _ _ _
    rw [ei] at g
    have es : (255 < (X.ins e c).items.length ∨ 512 < 20 + (hiB X.hi).size + isz (X.ins e c).items) ↔ 512 < (X.ins e c).size := by
      unfold Nd.size
      show _ ↔ 512 < 20 + (hiB X.hi).size + _
      omega
    have ep : (⟨a, 3, 0, X.rt, hiB X.hi, (X.ins e c).items⟩ : Pg) = (X.ins e c).pg a := by
      show _ = (⟨a, 3, ((X.lv : Nat) : Int), X.rt, hiB X.hi, (X.ins e c).items⟩ : Pg)
      rw [hv]; rfl
    rw [ep] at g
    exact ⟨fun z => g.1 (es.2 z), fun z => g.2 (fun y => z (es.1 y))⟩
theorem PosQ.wi {w w' : World} {x : Ending} {a : Int} {X : Nd} {e : En} {c : Int} (hv : 0 < X.lv) (hf : X.ks.length ≤ 82) (hc : okC c = true) (q : PosQ w w' x a X.lv X.rt (hiB X.hi) X.hi e c X.items X.ks) : (X.bad e → Res w w' x .none 140) ∧ (¬ X.bad e → Or3 w w' x (512 < (X.ins e c).size) ((X.ins e c).pg a)) := by
  refine ⟨fun b => q.bad ?_, fun b => ?_⟩
  · rcases b with b | b | b | b
    · exact .inl b
    · exact .inr (.inr (.inr b))
    · exact absurd b.1 (by omega)
    · exact .inr (.inl b.2)
  · have h1 : e.ok = true := by
      cases k : e.ok
      · exact absurd (.inl k) b
      · rfl
    have h2 : blw X.hi e = true := by
      cases k : blw X.hi e
      · exact absurd (.inr (.inr (.inr ⟨hv, k⟩))) b
      · rfl
    have g := q.good h1 h2 hc (fun k => b (.inr (.inl k)))
    have ei : posI X.items X.ks e c = (X.ins e c).items := by
      rw [Nd.ins_items]
      unfold posI itB
      rw [if_neg (by omega)]
      rfl
    have el : (X.ins e c).items.length = X.ks.length + 1 := by rw [Nd.items_len]; exact insK_len _ _ _
    rw [ei] at g
    have es : (255 < (X.ins e c).items.length ∨ 512 < 20 + (hiB X.hi).size + isz (X.ins e c).items) ↔ 512 < (X.ins e c).size := by
      unfold Nd.size
      show _ ↔ 512 < 20 + (hiB X.hi).size + _
      omega
    exact ⟨fun z => g.1 (es.2 z), fun z => g.2 (fun y => z (es.1 y))⟩
/-- Either page that comes up has its make. -/
theorem Or3.some {w w' : World} {x : Ending} {c : Prop} [Decidable c] {P : Pg} (h : Or3 w w' x c P) : Res w w' x (if c then .none else P) (if c then 3 else 0) := by
  by_cases k : c
  · rw [if_pos k, if_pos k]; exact h.1 k
  · rw [if_neg k, if_neg k]; exact h.2 k
/-- The page, and the code, that with answers. -/
def Nd.wiP (X : Nd) (a : Int) : Option (En × Int) → Pg
  | none => .none
  | some k => if X.bad k.1 then .none else if 512 < (X.ins k.1 k.2).size then .none else (X.ins k.1 k.2).pg a
def Nd.wiK (X : Nd) : Option (En × Int) → Int
  | none => 140
  | some k => if X.bad k.1 then 140 else if 512 < (X.ins k.1 k.2).size then 3 else 0
theorem wi_some {w w' : World} {x : Ending} {a : Int} {X : Nd} {k : En × Int} (h : (X.bad k.1 → Res w w' x .none 140) ∧ (¬ X.bad k.1 → Or3 w w' x (512 < (X.ins k.1 k.2).size) ((X.ins k.1 k.2).pg a))) : Res w w' x (X.wiP a (some k)) (X.wiK (some k)) := by
  unfold Nd.wiP Nd.wiK
  simp only []
  by_cases b : X.bad k.1
  · rw [if_pos b, if_pos b]; exact h.1 b
  · rw [if_neg b, if_neg b]; exact (h.2 b).some
set_option maxHeartbeats 3200000 in
theorem with_nd (w : World) (a : Int) (X : Nd) (s : ByteArray) (B cp : Nat) (ao : Option Addr) (hP : Nm w X B ao) (hF : Fit ao X.items.length cp) :
    Calls Tryz.prog 27 #[.agg #[.int .i64 a, .int .i64 3, .int .i64 X.lv, .int .i64 X.rt, .string (hiB X.hi), .slice ao X.items.length cp], .string s] w fun x w' => Res w w' x (X.wiP a (brd X.lv s)) (X.wiK (brd X.lv s)) := by
  have HX := hide (wi_new w (.int .i64 a) (.int .i64 3) (.int .i64 X.lv) (.int .i64 X.rt) (.string (hiB X.hi)) (.slice ao X.items.length cp))
  have HB := hide (fun W => bread_any X.lv s W)
  cases hb : brd X.lv s with
  | none =>
    rw [hb] at HB
    clear hb hP hF
    have HB2 : Hid (∀ W, Calls Tryz.prog 25 #[.int .i64 X.lv, .string s] W fun x w' => x = .returned (.tuple #[.agg #[.string ⟨#[]⟩, .int .i64 0, .int .i64 0], .int .i64 0, .int .i64 140]) ∧ Only (fun _ => False) W w') := HB
    clear HB
    show Calls _ _ _ _ fun x w' => Res w w' x .none 140
    obtain ⟨L, hL⟩ : ∃ L, (X.lv : Int) = L := ⟨_, rfl⟩
    obtain ⟨R, hR⟩ : ∃ R, (X.rt : Int) = R := ⟨_, rfl⟩
    obtain ⟨h, hh⟩ : ∃ h, hiB X.hi = h := ⟨_, rfl⟩
    obtain ⟨n, hn⟩ : ∃ n, X.items.length = n := ⟨_, rfl⟩
    rw [hL, hR, hh, hn] at HX ⊢
    rw [hL] at HB2
    clear hL hR hh hn
    go_enter Tryz.func27, Tryz.ntmps27
    go_upto_region 1 with fail
    obtain ⟨W0, hW0⟩ : ∃ x, (w.alloc (.cells #[.int .i64 a, .int .i64 3, .int .i64 L, .int .i64 R, .string h, .slice ao n cp] 24)).alloc (.cells #[.int .i64 0, .int .i64 0, .int .i64 0, .int .i64 0, .string ⟨#[]⟩, .slice none 0 0] 24) = x := ⟨_, rfl⟩
    rw [hW0] at HX ⊢
    clear hW0
    obtain ⟨p0, p1, p2, p3, p4, p5, _⟩ := HX.out.1
    go_wp2_with fail
    refine (HB2.out _).mono ?_
    rintro x w1 ⟨rfl, ho⟩
    have HQ1 := hide (HX.out.2.1.more ho)
    have HO1 := hide (o2 HX.out.2.2 ho)
    clear ho p0 p1 p2 p3 p4 p5 HX HB2
    go_upto_region 2 with fail
    have HA := hide (onlyA w1 (.cells #[.string ⟨#[]⟩, .int .i64 0, .int .i64 0] 41))
    obtain ⟨w2, hw2⟩ : ∃ x, w1.alloc (.cells #[.string ⟨#[]⟩, .int .i64 0, .int .i64 0] 41) = x := ⟨_, rfl⟩
    rw [hw2] at HA ⊢
    clear hw2
    have HQ2 := hide (HQ1.out.more HA.out)
    have HO2 := hide (o2 HO1.out HA.out)
    clear HA HQ1 HO1
    obtain ⟨q0, q1, q2, q3, q4, q5, g0, g1, g2, g3, g4, g5, ql⟩ := HQ2.out
    go_wp2_with fail
    refine bodyPost_ret (results_page rfl rfl (Pag.six HQ2.out _ _ _ _ _ _)) rfl ?_
    exact resErr _ HO2.out (by omega)
  | some k =>
    obtain ⟨e, c⟩ := k
    rw [hb] at HB
    have HB2 : Hid (∀ W, Calls Tryz.prog 25 #[.int .i64 X.lv, .string s] W fun x w' => x = .returned (.tuple #[.agg #[.string e.key, .int .i64 e.page, .int .i64 e.slot], .int .i64 c, .int .i64 0]) ∧ Only (fun _ => False) W w') := HB
    clear HB
    have HPT : Hid (X.lv = 0 → ∀ W, Only (fun _ => False) w W → Calls Tryz.prog 55 #[.agg #[.int .i64 a, .int .i64 3, .int .i64 X.lv, .int .i64 X.rt, .string (hiB X.hi), .slice ao X.items.length cp], .agg #[.string e.key, .int .i64 e.page, .int .i64 e.slot]] W fun x w' => Res W w' x (X.wiP a (some (e, c))) (X.wiK (some (e, c)))) := fun v W ho => by
      have h := insert_ok W a X.rt (hiB X.hi) X.hi e B cp ao X.items X.es ((hP.more ho).lp v) hF
      rw [v, Int.ofNat_zero]
      exact h.mono (fun x w' q => wi_some (k := (e, c)) (InsQ.wi v hP.few q))
    have HPS : Hid (0 < X.lv → ∀ W, Only (fun _ => False) w W → Calls Tryz.prog 56 #[.agg #[.int .i64 a, .int .i64 3, .int .i64 X.lv, .int .i64 X.rt, .string (hiB X.hi), .slice ao X.items.length cp], .agg #[.string e.key, .int .i64 e.page, .int .i64 e.slot], .int .i64 c] W fun x w' => Res W w' x (X.wiP a (some (e, c))) (X.wiK (some (e, c)))) := fun v W ho => by
      have hc : okC c = true := by
        unfold brd at hb
        rw [if_neg (by omega)] at hb
        exact (decS_some hb).2.1
      have h := post_ok W a X.lv X.rt (hiB X.hi) X.hi e c B cp ao X.items X.ks ((hP.more ho).ip v) hF
      exact h.mono (fun x w' q => wi_some (k := (e, c)) (PosQ.wi v hP.few hc q))
    clear hb hP hF
    obtain ⟨P, hP⟩ : ∃ P, X.wiP a (some (e, c)) = P := ⟨_, rfl⟩
    obtain ⟨K, hK⟩ : ∃ K, X.wiK (some (e, c)) = K := ⟨_, rfl⟩
    obtain ⟨R, hR⟩ : ∃ R, (X.rt : Int) = R := ⟨_, rfl⟩
    obtain ⟨h, hh⟩ : ∃ h, hiB X.hi = h := ⟨_, rfl⟩
    obtain ⟨n, hn⟩ : ∃ n, X.items.length = n := ⟨_, rfl⟩
    rw [hP, hK] at HPT HPS ⊢
    rw [hR, hh, hn] at HX HPT HPS ⊢
    clear hP hK hR hh hn
    rcases Nat.eq_zero_or_pos X.lv with v | v
    · have HPT1 := hide (HPT.out v)
      rw [v, Int.ofNat_zero] at HPT1 HX HB2 ⊢
      clear v HPT HPS
      go_enter Tryz.func27, Tryz.ntmps27
      go_upto_region 1 with fail
      obtain ⟨W0, hW0⟩ : ∃ x, (w.alloc (.cells #[.int .i64 a, .int .i64 3, .int .i64 0, .int .i64 R, .string h, .slice ao n cp] 24)).alloc (.cells #[.int .i64 0, .int .i64 0, .int .i64 0, .int .i64 0, .string ⟨#[]⟩, .slice none 0 0] 24) = x := ⟨_, rfl⟩
      rw [hW0] at HX ⊢
      clear hW0
      obtain ⟨p0, p1, p2, p3, p4, p5, _⟩ := HX.out.1
      go_wp2_with fail
      refine (HB2.out _).mono ?_
      rintro x w1 ⟨rfl, ho⟩
      have HP1 := hide (HX.out.1.more ho)
      have HQ1 := hide (HX.out.2.1.more ho)
      have HO1 := hide (o2 HX.out.2.2 ho)
      have HZ1 : Hid (w.heap.size + 1 < W0.heap.size) := HX.out.2.1.lt
      have HZ2 := hide ho.size
      clear ho p0 p1 p2 p3 p4 p5 HX HB2
      go_upto_region 2 with fail
      have HA := hide (onlyA w1 (.cells #[.string e.key, .int .i64 e.page, .int .i64 e.slot] 41))
      have HV := hide (Ev.new w1 e)
      obtain ⟨cb, hcb⟩ : ∃ b, w1.heap.size = b := ⟨_, rfl⟩
      rw [hcb] at HV HZ2 ⊢
      clear hcb
      obtain ⟨w2, hw2⟩ : ∃ x, w1.alloc (.cells #[.string e.key, .int .i64 e.page, .int .i64 e.slot] 41) = x := ⟨_, rfl⟩
      rw [hw2] at HA HV ⊢
      clear hw2
      have HP2 := hide (HP1.out.more HA.out)
      have HQ2 := hide (HQ1.out.more HA.out)
      have HO2 := hide (o2 HO1.out HA.out)
      clear HA HP1 HQ1 HO1
      obtain ⟨p0, p1, p2, p3, p4, p5, _⟩ := HP2.out
      obtain ⟨d0, d1, d2, _⟩ := HV.out
      go_wp2_with fail
      refine (HPT1.out _ HO2.out).mono ?_
      rintro x w4 ⟨B5, ao5, cp5, rfl, hS5, hF5, ho5, hB5⟩
      have HX2 := hide ho5
      have HS7 := hide (And.intro hS5 (And.intro hF5 hB5))
      have HQ7 := hide (HQ2.out.more ho5)
      have HZ7 : Hid (w.heap.size + 1 < w2.heap.size) := HQ2.out.lt
      clear hS5 hF5 ho5 hB5 p0 p1 p2 p3 p4 p5 d0 d1 d2
      obtain ⟨q0, q1, q2, q3, q4, q5, g0, g1, g2, g3, g4, g5, ql⟩ := HQ7.out
      go_wp2_with fail
      refine bodyPost_ret (results_page rfl rfl (Pag.six HQ7.out _ _ _ _ _ _)) rfl ?_
      exact resSix (p := P) (k := K) HS7.out.1 HS7.out.2.1 HX2.out HS7.out.2.2 HO2.out (w.heap.size + 1) (by omega) HZ7.out _ _ _ _ _ _
    · have HPT1 := hide (HPS.out v)
      have hv0 : ¬ (X.lv : Int) = 0 := by omega
      obtain ⟨L, hL⟩ : ∃ L, (X.lv : Int) = L := ⟨_, rfl⟩
      rw [hL] at HPT1 HX HB2 hv0 ⊢
      clear v HPT HPS hL
      go_enter Tryz.func27, Tryz.ntmps27
      go_upto_region 1 with fail
      obtain ⟨W0, hW0⟩ : ∃ x, (w.alloc (.cells #[.int .i64 a, .int .i64 3, .int .i64 L, .int .i64 R, .string h, .slice ao n cp] 24)).alloc (.cells #[.int .i64 0, .int .i64 0, .int .i64 0, .int .i64 0, .string ⟨#[]⟩, .slice none 0 0] 24) = x := ⟨_, rfl⟩
      rw [hW0] at HX ⊢
      clear hW0
      obtain ⟨p0, p1, p2, p3, p4, p5, _⟩ := HX.out.1
      go_wp2_with fail
      refine (HB2.out _).mono ?_
      rintro x w1 ⟨rfl, ho⟩
      have HP1 := hide (HX.out.1.more ho)
      have HQ1 := hide (HX.out.2.1.more ho)
      have HO1 := hide (o2 HX.out.2.2 ho)
      clear ho p0 p1 p2 p3 p4 p5 HX HB2
      go_upto_region 2 with fail
      have HA := hide (onlyA w1 (.cells #[.string e.key, .int .i64 e.page, .int .i64 e.slot] 41))
      have HV := hide (Ev.new w1 e)
      obtain ⟨cb, hcb⟩ : ∃ b, w1.heap.size = b := ⟨_, rfl⟩
      rw [hcb] at HV ⊢
      clear hcb
      obtain ⟨w2, hw2⟩ : ∃ x, w1.alloc (.cells #[.string e.key, .int .i64 e.page, .int .i64 e.slot] 41) = x := ⟨_, rfl⟩
      rw [hw2] at HA HV ⊢
      clear hw2
      have HP2 := hide (HP1.out.more HA.out)
      have HQ2 := hide (HQ1.out.more HA.out)
      have HO2 := hide (o2 HO1.out HA.out)
      clear HA HP1 HQ1 HO1
      obtain ⟨p0, p1, p2, p3, p4, p5, _⟩ := HP2.out
      obtain ⟨d0, d1, d2, _⟩ := HV.out
      go_wp2_with fail
      refine (HPT1.out _ HO2.out).mono ?_
      rintro x w4 ⟨B5, ao5, cp5, rfl, hS5, hF5, ho5, hB5⟩
      have HX2 := hide ho5
      have HS7 := hide (And.intro hS5 (And.intro hF5 hB5))
      have HQ7 := hide (HQ2.out.more ho5)
      have HZ7 : Hid (w.heap.size + 1 < w2.heap.size) := HQ2.out.lt
      clear hS5 hF5 ho5 hB5 p0 p1 p2 p3 p4 p5 d0 d1 d2
      obtain ⟨q0, q1, q2, q3, q4, q5, g0, g1, g2, g3, g4, g5, ql⟩ := HQ7.out
      go_wp2_with fail
      refine bodyPost_ret (results_page rfl rfl (Pag.six HQ7.out _ _ _ _ _ _)) rfl ?_
      exact resSix (p := P) (k := K) HS7.out.1 HS7.out.2.1 HX2.out HS7.out.2.2 HO2.out (w.heap.size + 1) (by omega) HZ7.out _ _ _ _ _ _
/-- Whether an item lies beyond a node. -/
theorem isBeyondB_nd (w : World) (a : Int) (X : Nd) (s : ByteArray) (e : En) (c : Int) (B cp : Nat) (ao : Option Addr) (hP : Nm w X B ao) (hs : brd X.lv s = some (e, c)) (he : e.ok = true) :
    Calls Tryz.prog 67 #[.agg #[.int .i64 a, .int .i64 3, .int .i64 X.lv, .int .i64 X.rt, .string (hiB X.hi), .slice ao X.items.length cp], .string s] w fun x w' => x = .returned (.bool (byd X.hi e)) ∧ Only (fun _ => False) w w' := by
  have HP := hide (Pag.new w (.int .i64 a) (.int .i64 3) (.int .i64 X.lv) (.int .i64 X.rt) (.string (hiB X.hi)) (.slice ao X.items.length cp))
  have HO := hide (onlyA w (.cells #[.int .i64 a, .int .i64 3, .int .i64 X.lv, .int .i64 X.rt, .string (hiB X.hi), .slice ao X.items.length cp] 24))
  have HB2 : Hid (∀ W, Calls Tryz.prog 25 #[.int .i64 X.lv, .string s] W fun x w' => x = .returned (.tuple #[.agg #[.string e.key, .int .i64 e.page, .int .i64 e.slot], .int .i64 c, .int .i64 0]) ∧ Only (fun _ => False) W w') := fun W => by
    have h := bread_any X.lv s W
    rw [hs] at h
    exact h
  have HY : Hid (∀ W, Only (fun _ => False) w W → Calls Tryz.prog 80 #[.agg #[.int .i64 a, .int .i64 3, .int .i64 X.lv, .int .i64 X.rt, .string (hiB X.hi), .slice ao X.items.length cp], .agg #[.string e.key, .int .i64 e.page, .int .i64 e.slot]] W fun x w' => x = .returned (.tuple #[.bool (byd X.hi e), .int .i64 0]) ∧ Only (fun _ => False) W w') := fun W ho => by
    have h := beyond_nd W a X e B cp ao (hP.more ho)
    unfold byV at h
    rw [if_pos he] at h
    exact h
  clear hP hs he
  obtain ⟨L, hL⟩ : ∃ L, (X.lv : Int) = L := ⟨_, rfl⟩
  obtain ⟨R, hR⟩ : ∃ R, (X.rt : Int) = R := ⟨_, rfl⟩
  obtain ⟨h, hh⟩ : ∃ h, hiB X.hi = h := ⟨_, rfl⟩
  obtain ⟨n, hn⟩ : ∃ n, X.items.length = n := ⟨_, rfl⟩
  obtain ⟨Y, hY⟩ : ∃ Y, byd X.hi e = Y := ⟨_, rfl⟩
  rw [hL, hR, hh, hn] at HP HO HY ⊢
  rw [hL] at HB2
  rw [hY] at HY ⊢
  clear hL hR hh hn hY
  go_enter Tryz.func67, Tryz.ntmps67
  go_upto_region 1 with fail
  obtain ⟨W0, hW0⟩ : ∃ x, w.alloc (.cells #[.int .i64 a, .int .i64 3, .int .i64 L, .int .i64 R, .string h, .slice ao n cp] 24) = x := ⟨_, rfl⟩
  rw [hW0] at HP HO ⊢
  clear hW0
  obtain ⟨p0, p1, p2, p3, p4, p5, _⟩ := HP.out
  go_wp2_with fail
  refine (HB2.out _).mono ?_
  rintro x w1 ⟨rfl, ho⟩
  have HP1 := hide (HP.out.more ho)
  have HO1 := hide (o2 HO.out ho)
  clear ho p0 p1 p2 p3 p4 p5 HP HO HB2
  go_upto_region 2 with fail
  have HA := hide (onlyA w1 (.cells #[.string e.key, .int .i64 e.page, .int .i64 e.slot] 41))
  have HV := hide (Ev.new w1 e)
  obtain ⟨cb, hcb⟩ : ∃ b, w1.heap.size = b := ⟨_, rfl⟩
  rw [hcb] at HV ⊢
  clear hcb
  obtain ⟨w2, hw2⟩ : ∃ x, w1.alloc (.cells #[.string e.key, .int .i64 e.page, .int .i64 e.slot] 41) = x := ⟨_, rfl⟩
  rw [hw2] at HA HV ⊢
  clear hw2
  have HP2 := hide (HP1.out.more HA.out)
  have HO2 := hide (o2 HO1.out HA.out)
  clear HA HP1 HO1
  obtain ⟨p0, p1, p2, p3, p4, p5, _⟩ := HP2.out
  obtain ⟨d0, d1, d2, _⟩ := HV.out
  go_wp2_with fail
  refine (HY.out _ HO2.out).mono ?_
  rintro x w3 ⟨rfl, ho⟩
  have HO3 := hide (o2 HO2.out ho)
  clear ho
  go_wp2_with fail
  go_ret
  exact ⟨rfl, HO3.out⟩
end Go.Proofs.YthjjkhacniebiaaGreat
