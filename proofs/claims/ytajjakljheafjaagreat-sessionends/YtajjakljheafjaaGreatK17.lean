/- Parts. -/
import Derived.Test.YtajjakljheafjaaGreatK16
set_option maxRecDepth 100000
namespace Go.Proofs.YtajjakljheafjaaGreat
open Go.RowKit
theorem results_split {fn:Func} {p q s u:Tmp} (h:fn.results=#[.cell p 37,.cell q 37,.cell s 89,.tmp u]) {tmps:Array Value} {w:World} {b c d:Nat} {v0 v1 v2 v3 v4 v5 u0 u1 u2 u3 u4 u5:Value} {e:En} (hp:tmps.getD p undef=.pointer (some ⟨b,0,none⟩)) (hq:tmps.getD q undef=.pointer (some ⟨c,0,none⟩)) (hs:tmps.getD s undef=.pointer (some ⟨d,0,none⟩)) (hP:Pag w b v0 v1 v2 v3 v4 v5) (hQ:Pag w c u0 u1 u2 u3 u4 u5) (hE:Ev w d e) :
    (results fn tmps).run Tryz.prog w=.ok (.tuple #[.agg #[v0,v1,v2,v3,v4,v5],.agg #[u0,u1,u2,u3,u4,u5],e.agg,tmps.getD u undef]) w:=by
  have e1:∀ x,(asAddr (.pointer (some ⟨x,0,none⟩))).run Tryz.prog w=.ok ⟨x,0,none⟩ w:=fun x=>rfl
  have hp':tmps[p]?.getD undef=.pointer (some ⟨b,0,none⟩):=by simpa using hp
  have hq':tmps[q]?.getD undef=.pointer (some ⟨c,0,none⟩):=by simpa using hq
  have hs':tmps[s]?.getD undef=.pointer (some ⟨d,0,none⟩):=by simpa using hs
  simp only [results,h]
  simp [Sem.run_bind,Result.andThen,hp',hq',hs',e1,load_page hP,load_page hQ,load_ev hE]
structure Sv (w W:World) (a r:Int) (h:ByteArray) (ao:Option Addr) (n cp:Nat):Prop where
  pag:Pag W w.heap.size (.int .i64 a) (.int .i64 3) (.int .i64 0) (.int .i64 r) (.string h) (.slice ao n cp)
  r1:Pag W (w.heap.size+1) (.int .i64 0) (.int .i64 0) (.int .i64 0) (.int .i64 0) (.string ⟨#[]⟩) (.slice none 0 0)
  r2:Pag W (w.heap.size+1+1) (.int .i64 0) (.int .i64 0) (.int .i64 0) (.int .i64 0) (.string ⟨#[]⟩) (.slice none 0 0)
  r3:Ev W (w.heap.size+1+1+1) noE
  only:Only (fun _=>False) w W
theorem Sv.more {w W W':World} {a r:Int} {h:ByteArray} {ao:Option Addr} {n cp:Nat} (x:Sv w W a r h ao n cp) (ho:Only (fun _=>False) W W'):Sv w W' a r h ao n cp:=⟨x.pag.more ho,x.r1.more ho,x.r2.more ho,x.r3.more ho,o2 x.only ho⟩
theorem Sv.kept {w W W':World} {a r:Int} {h:ByteArray} {ao:Option Addr} {n cp:Nat} {S:Nat→Prop} (x:Sv w W a r h ao n cp) (ho:Only S W W') (hS:∀ k,S k→w.heap.size+1+1+1 < k):Sv w W' a r h ao n cp :=
  ⟨x.pag.kept ho (fun s=>by have:=hS _ s; omega),x.r1.kept ho (fun s=>by have:=hS _ s; omega),x.r2.kept ho (fun s=>by have:=hS _ s; omega),x.r3.kept ho (fun s=>by have:=hS _ s; omega),x.only.trans ho (fun i hi s=>by have:=hS _ s; omega)⟩
def svW (w:World) (a r:Int) (h:ByteArray) (ao:Option Addr) (n cp:Nat):World:=(((w.alloc (.cells #[.int .i64 a,.int .i64 3,.int .i64 0,.int .i64 r,.string h,.slice ao n cp] 37)).alloc (.cells #[.int .i64 0,.int .i64 0,.int .i64 0,.int .i64 0,.string ⟨#[]⟩,.slice none 0 0] 37)).alloc (.cells #[.int .i64 0,.int .i64 0,.int .i64 0,.int .i64 0,.string ⟨#[]⟩,.slice none 0 0] 37)).alloc (.cells #[.string ⟨#[]⟩,.int .i64 0,.int .i64 0] 89)
theorem Sv.new (w:World) (a r:Int) (h:ByteArray) (ao:Option Addr) (n cp:Nat):Sv w (svW w a r h ao n cp) a r h ao n cp:=by
  unfold svW
  have e1:=Pag.new (w.alloc (.cells #[.int .i64 a,.int .i64 3,.int .i64 0,.int .i64 r,.string h,.slice ao n cp] 37)) (.int .i64 0) (.int .i64 0) (.int .i64 0) (.int .i64 0) (.string ⟨#[]⟩) (.slice none 0 0)
  rw [World.size_alloc] at e1
  have e2:=Pag.new ((w.alloc (.cells #[.int .i64 a,.int .i64 3,.int .i64 0,.int .i64 r,.string h,.slice ao n cp] 37)).alloc (.cells #[.int .i64 0,.int .i64 0,.int .i64 0,.int .i64 0,.string ⟨#[]⟩,.slice none 0 0] 37)) (.int .i64 0) (.int .i64 0) (.int .i64 0) (.int .i64 0) (.string ⟨#[]⟩) (.slice none 0 0)
  rw [World.size_alloc,World.size_alloc] at e2
  have e3:=Ev.zero (((w.alloc (.cells #[.int .i64 a,.int .i64 3,.int .i64 0,.int .i64 r,.string h,.slice ao n cp] 37)).alloc (.cells #[.int .i64 0,.int .i64 0,.int .i64 0,.int .i64 0,.string ⟨#[]⟩,.slice none 0 0] 37)).alloc (.cells #[.int .i64 0,.int .i64 0,.int .i64 0,.int .i64 0,.string ⟨#[]⟩,.slice none 0 0] 37))
  rw [World.size_alloc,World.size_alloc,World.size_alloc] at e3
  exact ⟨(Pag.new w _ _ _ _ _ _).more (o2 (o2 (onlyA _ _) (onlyA _ _)) (onlyA _ _)),e1.more (o2 (onlyA _ _) (onlyA _ _)),e2.more (onlyA _ _),e3,o2 (o2 (o2 (onlyA _ _) (onlyA _ _)) (onlyA _ _)) (onlyA _ _)⟩
theorem half_eq (n:Nat) (hn:n≤1048576):wrap64 ((wrap64 ((n:Int)+1)).tdiv 2)=(((n+1) / 2:Nat):Int):=by
  have h1:wrap64 ((n:Int)+1)=(n:Int)+1:=by unfold wrap64; omega
  rw [h1,Int.tdiv_eq_ediv_of_nonneg (by omega)]
  unfold wrap64
  omega
theorem Pag.left {w:World} {b:Nat} {v0 v1 v2 v3 v4 v5:Value} (h:Pag w b v0 v1 v2 v3 v4 v5) (x y z:Value):Pag (((w.setCell ⟨b,3,none⟩ x).setCell ⟨b,4,none⟩ y).setCell ⟨b,5,none⟩ z) b v0 v1 v2 x y z:=by
  have a0:=othN _ b 3 0 x _ (by omega) h.c0
  have a1:=othN _ b 3 1 x _ (by omega) h.c1
  have a2:=othN _ b 3 2 x _ (by omega) h.c2
  have a3:(w.setCell ⟨b,3,none⟩ x).cell? ⟨b,3,none⟩=some x:=World.cell?_setCell_same _ _ _ h.c3
  have a4:=othN _ b 3 4 x _ (by omega) h.c4
  have a5:=othN _ b 3 5 x _ (by omega) h.c5
  have b0:=othN _ b 4 0 y _ (by omega) a0
  have b1:=othN _ b 4 1 y _ (by omega) a1
  have b2:=othN _ b 4 2 y _ (by omega) a2
  have b3:=othN _ b 4 3 y _ (by omega) a3
  have b4:((w.setCell ⟨b,3,none⟩ x).setCell ⟨b,4,none⟩ y).cell? ⟨b,4,none⟩=some y:=World.cell?_setCell_same _ _ _ a4
  have b5:=othN _ b 4 5 y _ (by omega) a5
  exact ⟨othN _ b 5 0 z _ (by omega) b0,othN _ b 5 1 z _ (by omega) b1,othN _ b 5 2 z _ (by omega) b2,othN _ b 5 3 z _ (by omega) b3,othN _ b 5 4 z _ (by omega) b4,World.cell?_setCell_same _ _ _ b5,by simpa using h.f0,by simpa using h.f1,by simpa using h.f2,by simpa using h.f3,by simpa using h.f4,by simpa using h.f5,by simpa using h.lt⟩
theorem Only.left (w:World) (b:Nat) (x y z:Value):Only (fun k=>k=b) w (((w.setCell ⟨b,3,none⟩ x).setCell ⟨b,4,none⟩ y).setCell ⟨b,5,none⟩ z):=by
  have st:∀ (W:World) (i:Nat) (v:Value),Only (fun k=>k=b) W (W.setCell ⟨b,i,none⟩ v):=fun W i v=>Only.setCell W ⟨b,i,none⟩ v rfl
  exact ((st _ 3 _).trans (st _ 4 _) (fun _ _ h=>h)).trans (st _ 5 _) (fun _ _ h=>h)
theorem Pag.at (w:World) (b:Nat) (hb:b=w.heap.size) (v0 v1 v2 v3 v4 v5:Value):Pag (w.alloc (.cells #[v0,v1,v2,v3,v4,v5] 37)) b v0 v1 v2 v3 v4 v5:=by subst hb; exact Pag.new w _ _ _ _ _ _
end Go.Proofs.YtajjakljheafjaaGreat
