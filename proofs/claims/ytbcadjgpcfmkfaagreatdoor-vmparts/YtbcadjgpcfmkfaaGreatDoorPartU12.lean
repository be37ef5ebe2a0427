/- MCopy; MSt; RAg0; MLow. -/
import Derived.Laws.CopyRow
import Derived.Laws.IdiomCopy
import Derived.Test.YtbcadjgpcfmkfaaGreatDoorPartU11
import Derived.Test.YtbcadjgpcfmkfaaGreatDoorPartU1
import Derived.Test.YtbcadjgpcfmkfaaGreatDoorPartU9
set_option maxHeartbeats 0
set_option maxRecDepth 100000
set_option linter.unusedSimpArgs false
namespace Go.Proofs.YtbcadjgpcfmkfaaGreatDoor
open Go Go.RowKit
section
section
variable {α : Type} {enc : α → List Value} {T Ts sz bytes base : Nat} {z : Value}
theorem Mh (he:∀x,(enc x).length=sz) (l:List α) (n:Nat) (hn:n<=l.length):(l.take n).flatMap enc=(l.flatMap enc).take (n*sz):=by
 have hlt:(l.take n).length=n:=by rw[List.length_take];omega
 have h1:l.flatMap enc=(l.take n).flatMap enc++(l.drop n).flatMap enc:=by rw[<-List.flatMap_append,List.take_append_drop]
 rw[h1,List.take_append_of_le_length (by rw[bK enc sz he,hlt];exact Nat.le_refl _),List.take_of_length_le (i:=n*sz) (l:=(l.take n).flatMap enc) (by rw[bK enc sz he,hlt];exact Nat.le_refl _)]
theorem Mi (he:∀x,(enc x).length=sz) (l:List α) (n:Nat) (hn:n<=l.length):(l.drop n).flatMap enc=(l.flatMap enc).drop (n*sz):=by
 have hlt:(l.take n).length=n:=by rw[List.length_take];omega
 have h1:l.flatMap enc=(l.take n).flatMap enc++(l.drop n).flatMap enc:=by rw[<-List.flatMap_append,List.take_append_drop]
 rw[h1,List.drop_append_of_le_length (by rw[bK enc sz he,hlt];exact Nat.le_refl _),List.drop_of_length_le (i:=n*sz) (l:=(l.take n).flatMap enc) (by rw[bK enc sz he,hlt];exact Nat.le_refl _),List.nil_append]
theorem Own.copy (hu:Tryz.prog.underlying Ts=some (.slice T)) (Au:(Tryz.prog.info? T).map (fun i=>(i.zero,i.size,i.bytes))=some (some z,sz,bytes)) (hsz:0<sz) (he:∀x,(enc x).length=sz) (h1:∀x,∀u∈enc x,u.oneCell'=true)
 {q x:ai} {xs ys:List α} {w:World} (h:Own enc T sz base q xs w) (hs:Sl enc sz w x.v ys) (ty:TypeId):
 ∃w',(Builtin.copy_ #[Ts,Ts] ty #[.slice q.a q.n q.c,.slice x.a x.n x.c]).run Tryz.prog w=.ok (goInt (Nat.min ys.length xs.length)) w'/\Own enc T sz base q (ys.take xs.length++xs.drop ys.length) w'/\Fr (fun k=>q.v.ownBlock=some k) w w':=by
 obtain⟨j0,hj0,hy0,hy1,hy2⟩:=info_parts Au;obtain⟨hn,hm⟩:=ay hs;have hnq:=h.n;obtain⟨xa,xn,xc⟩:=x;obtain⟨qa,qn,qc⟩:=q;simp only at hn hnq;subst hn hnq
 by_cases hk:Nat.min ys.length xs.length=0
 ·have e:ys.take xs.length++xs.drop ys.length=xs:=by
   rcases Nat.eq_zero_or_pos ys.length with h0|h0
   ·rw[List.length_eq_zero_iff.1 h0];simp
   ·have h2:xs.length=0:=by
     have:Nat.min ys.length xs.length=min ys.length xs.length:=rfl;omega
    rw[List.length_eq_zero_iff.1 h2];simp
  refine⟨w,?_,by rw[e];exact h,Fr.refl _ _⟩
  have hl:∀(x:Addr),(loadCells x 0).run Tryz.prog w=.ok #[] w:=fun x=>by simpa using run_loadCells_list (P:=Tryz.prog) w x [] (by simp)
  cases qa<;>cases xa<;>simp[Builtin.copy_,run_underlying hu,Builtin.lenOf,Builtin.firstCells,sizeOf,typeInfo,hj0,hk,storeCells,hl]
 ·have hmin:Nat.min ys.length xs.length=min ys.length xs.length:=rfl;obtain⟨cs,hcs⟩:∃cs,cs=(ys.take xs.length).flatMap enc:=⟨_,rfl⟩
  have hcl:cs.length=Nat.min ys.length xs.length*sz:=by
   rw[hcs,bK enc sz he,List.length_take,hmin,Nat.min_comm]
  have hct:cs=(ys.flatMap enc).take (Nat.min ys.length xs.length*sz):=by
   rw[hcs,<-Mh he _ _ (by rw[hmin];omega)]
   congr 1
   rw[hmin];rcases Nat.le_total xs.length ys.length with h2|h2
   ·rw[Nat.min_eq_right h2]
   ·rw[Nat.min_eq_left h2,List.take_of_length_le h2,List.take_of_length_le (Nat.le_refl _)]
  have hpos:0<cs.length:=by rw[hcl];exact Nat.mul_pos (by omega) hsz
  have hget:=uz he hsz hs;have hin:∀j u,cs[j]?=some u->(ys.flatMap enc)[j]?=some u:=fun j u hj=>by
   rw[hct,List.getElem?_take] at hj;split at hj
   ·exact hj
   ·cases hj
  obtain⟨ad,e0,_⟩:=hget 0 _ (hin 0 _ (List.getElem?_eq_getElem hpos));simp only at e0;subst e0;have hsrc:∀j u,cs[j]?=some u->w.cell? (ad.add j)=some u:=fun j u hj=>by
   obtain⟨WQ,e1,e2⟩:=hget j u (hin j u hj);obtain rfl:ad=WQ:=by simpa using e1
   exact e2
  have hone:∀u∈cs,u.oneCell'=true:=fun u hu'=>by
   rw[hcs] at hu';obtain⟨x,_,hx⟩:=List.mem_flatMap.1 hu';exact h1 x u hx
  rcases h.row.2 with⟨e,h0⟩|⟨g,cap,cur,e,k1,k2,k3,k4,k5,k6⟩
  ·exfalso;exact hk (by rw[hmin];omega)
  simp only[ai.v,Value.slice.injEq] at e;obtain⟨rfl,_,rfl⟩:=e;have hcx:cs.length<=xs.length*sz:=by rw[hcl];exact Nat.mul_le_mul_right sz (by rw[hmin];omega)
  have hcu:xs.length*sz<=cur.size:=by rw[k5];exact Nat.mul_le_mul_right sz k3
  have hl:=run_loadCells_list (P:=Tryz.prog) w ad cs hsrc;have hst:=run_storeCells_at Tryz.prog g 0 T cs 0 cur w k2 (by omega) hone;simp only[Nat.zero_add,Nat.add_zero,List.take_zero,List.nil_append] at hst;refine⟨w.setRow g (cs++cur.toList.drop cs.length).toArray,?_,⟨by simp;omega,?_,.inr ⟨g,qc,(cs++cur.toList.drop cs.length).toArray,?_,k1,setRow_heap w g cur _ T (0,0) k2,?_,k4,?_,?_⟩⟩,⟨rfl,rfl,rfl,by simp[World.setRow],fun k hk hs=>setRow_other w g k _ (fun e=>hs (by rw[e];rfl))⟩⟩
  ·rw[hcl] at hl;simp[Builtin.copy_,run_underlying hu,Builtin.lenOf,Builtin.firstCells,sizeOf,typeInfo,hj0,hy1,hl,hst]
  ·rw[bK enc sz he]
  ·simp only[ai.v,Value.slice.injEq,true_and,and_true];simp;omega
  ·simp;omega
  ·simp;omega
  ·have e1:(ys.take xs.length++xs.drop ys.length).length=xs.length:=by simp;omega
   rw[e1,List.toList_toArray,List.flatMap_append,<-hcs,List.take_append,List.take_of_length_le hcx]
   congr 1
   have e2:xs.drop ys.length=xs.drop (Nat.min ys.length xs.length):=by
    rw[hmin];rcases Nat.le_total xs.length ys.length with h2|h2
    ·rw[Nat.min_eq_right h2,List.drop_of_length_le h2,List.drop_of_length_le (Nat.le_refl _)]
    ·rw[Nat.min_eq_left h2]
   rw[e2,Mi he _ _ (by rw[hmin];omega),<-k6,<-hcl,List.drop_take]
end
end
section
def Dj (x y:ai):Prop:=∀b,x.ob=some b->y.ob≠some b
theorem Dj.symm {x y:ai} (h:Dj x y):Dj y x:=fun b hb e=>h b e hb
theorem Dj.nil (y:ai):Dj aN y:=fun b hb=>by cases hb
theorem Dj.fresh {x y:ai} {n:Nat} (h:∀b,x.ob=some b->n<=b) (hy:∀b,y.ob=some b->b<n):Dj x y:=fun b hb e=>by have:=h b hb;have:=hy b e;omega
theorem Dj.cut {x y:ai} (h:Dj x y) (k:Nat):Dj ⟨x.a,k,x.c⟩ y:=fun b hb=>h b ((qJ x.a x.n k x.c).trans hb)
structure Fo (base:Nat) (r:aQ) (f:Fm) (w:World):Prop where
 fn:r.fn=f.fn
 at_:r.at_=f.at_
 v:fF aP 53 3 base r.v f.vars w
 s:fF aP 53 3 base r.s f.stack w
 d:Dj r.v r.s
theorem Fo.fr {base:Nat} {r:aQ} {f:Fm} {w w':World} {S:Nat->Prop} (h:Fo base r f w) (hf:Fr S w w') (h1:∀b,r.v.ob=some b->¬S b) (h2:∀b,r.s.ob=some b->¬S b):Fo base r f w':=⟨h.fn,h.at_,h.v.fr hf h1,h.s.fr hf h2,h.d⟩
def Da (x:ai) (r:aQ):Prop:=Dj x r.v/\Dj x r.s
structure Mc where
 id:Int
 bu:Int
 pg:Pz
 pre:List Fm
 f:Fm
 hp:List aV
 fuel:Int
 cells:Int
 hops:Int
def Mc.ag (m:Mc):Ag:=⟨m.id,m.bu,m.pg,m.pre++ [m.f],m.hp,m.fuel,m.cells,m.hops⟩
structure Fx where
 sc:ai
 sw:ai
 nm:Bs
 cu:ai
 kD:Int
 kE:Int
def Ob (qf qh:ai) (rp:List aQ) (r:aQ) (k:Nat):Prop:=qf.ob=some k\/qh.ob=some k\/r.v.ob=some k\/r.s.ob=some k\/∃q∈rp,q.v.ob=some k\/q.s.ob=some k
structure Mt (base mb:Nat) (x:Fx) (qf qh:ai) (rp:List aQ) (r:aQ) (m:Mc) (w:World):Prop where
 c0:w.cell? ⟨mb,0,none⟩=some (.int .i64 m.id)
 c1:w.cell? ⟨mb,1,none⟩=some (.int .i64 m.bu)
 c2:w.cell? ⟨mb,2,none⟩=some (.slice x.sc.a x.sc.n x.sc.c)
 c3:w.cell? ⟨mb,3,none⟩=some (.slice x.sw.a x.sw.n x.sw.c)
 c4:w.cell? ⟨mb,4,none⟩=some (.slice qf.a qf.n qf.c)
 c5:w.cell? ⟨mb,5,none⟩=some (.slice qh.a qh.n qh.c)
 c6:w.cell? ⟨mb,6,none⟩=some (.int .i64 m.fuel)
 c7:w.cell? ⟨mb,7,none⟩=some (.int .i64 m.cells)
 c8:w.cell? ⟨mb,8,none⟩=some (.int .i64 m.hops)
 c9:w.cell? ⟨mb,9,none⟩=some (.string (bs x.nm))
 c10:w.cell? ⟨mb,10,none⟩=some (.slice x.cu.a x.cu.n x.cu.c)
 c11:w.cell? ⟨mb,11,none⟩=some (.int .i64 x.kD)
 c12:w.cell? ⟨mb,12,none⟩=some (.int .i64 x.kE)
 z:∀j,w.frozen? ⟨mb,j,none⟩=false
 ml:mb<w.heap.size
 bl:base<=w.heap.size
 fr:fF lU 51 4 base qf (rp++ [r]) w
 lp:rp.length=m.pre.length
 ep:∀(i:Nat) (q:aQ) (g:Fm),rp[i]?=some q->m.pre[i]?=some g->Fo base q g w
 et:Fo base r m.f w
 hp:fF jv 88 6 base qh m.hp w
 Bz:Dj qf qh
 Az:Da qf r
 De:Da qh r
 BA:∀q∈rp,Da qf q
 Ae:∀q∈rp,Da qh q
 Hq:∀q∈rp,Da r.v q/\Da r.s q
 AA:∀(i j:Nat) (q q':aQ),i≠j->rp[i]?=some q->rp[j]?=some q'->Da q.v q'/\Da q.s q'
 nm:∀k,Ob qf qh rp r k->k≠mb
section
variable {base mb : Nat} {x : Fx} {qf qh : ai} {rp : List aQ} {r : aQ} {m : Mc} {w : World}
theorem Mt.frs (h:Mt base mb x qf qh rp r m w):rp.length=m.pre.length/\qf.n=rp.length+1:=⟨h.lp,by have:=h.fr.n;simpa using this⟩
theorem Mt.mw (h:Mt base mb x qf qh rp r m w):mb<w.heap.size:=h.ml
theorem Mt.new {w':World} (h:Mt base mb x qf qh rp r m w) (hf:Fr nothing w w'):Mt base mb x qf qh rp r m w':=by
 have hc:∀j,w'.cell? ⟨mb,j,none⟩=w.cell? ⟨mb,j,none⟩:=fun j=>hf.cell (p:=⟨mb,j,none⟩) h.mw id
 have hN:∀(q:ai) (b:Nat),q.ob=some b->¬(nothing b):=fun _ _ _=>id
 exact⟨(hc 0).trans h.c0,(hc 1).trans h.c1,(hc 2).trans h.c2,(hc 3).trans h.c3,(hc 4).trans h.c4,(hc 5).trans h.c5,(hc 6).trans h.c6,(hc 7).trans h.c7,(hc 8).trans h.c8,(hc 9).trans h.c9,(hc 10).trans h.c10,(hc 11).trans h.c11,(hc 12).trans h.c12,
  fun j=>(hf.frozen (p:=⟨mb,j,none⟩) h.mw id).trans (h.z j),Nat.lt_of_lt_of_le h.ml hf.size,Nat.le_trans h.bl hf.size,h.fr.new hf,h.lp,fun i q g e1 e2=>(h.ep i q g e1 e2).fr hf (hN _) (hN _),h.et.fr hf (hN _) (hN _),h.hp.new hf,h.Bz,h.Az,h.De,h.BA,h.Ae,h.Hq,h.AA,h.nm⟩
theorem Mt.fr' {w':World} {S:Nat->Prop} (h:Mt base mb x qf qh rp r m w) (hf:Fr S w w') (hm:¬S mb) (h1:∀b,qf.ob=some b->¬S b) (h2:∀b,qh.ob=some b->¬S b) (h3:∀b,r.v.ob=some b->¬S b) (h4:∀b,r.s.ob=some b->¬S b) (h5:∀q∈rp,(∀b,q.v.ob=some b->¬S b)/\∀b,q.s.ob=some b->¬S b):Mt base mb x qf qh rp r m w':=by
 have hc:∀j,w'.cell? ⟨mb,j,none⟩=w.cell? ⟨mb,j,none⟩:=fun j=>hf.cell (p:=⟨mb,j,none⟩) h.mw hm
 exact⟨(hc 0).trans h.c0,(hc 1).trans h.c1,(hc 2).trans h.c2,(hc 3).trans h.c3,(hc 4).trans h.c4,(hc 5).trans h.c5,(hc 6).trans h.c6,(hc 7).trans h.c7,(hc 8).trans h.c8,(hc 9).trans h.c9,(hc 10).trans h.c10,(hc 11).trans h.c11,(hc 12).trans h.c12,
  fun j=>(hf.frozen (p:=⟨mb,j,none⟩) h.mw hm).trans (h.z j),Nat.lt_of_lt_of_le h.ml hf.size,Nat.le_trans h.bl hf.size,h.fr.fr hf h1,h.lp,fun i q g e1 e2=>(h.ep i q g e1 e2).fr hf (h5 q (List.mem_of_getElem? e1)).1 (h5 q (List.mem_of_getElem? e1)).2,h.et.fr hf h3 h4,h.hp.fr hf h2,h.Bz,h.Az,h.De,h.BA,h.Ae,h.Hq,h.AA,h.nm⟩
structure ZY (n:Nat) (qf qh:ai) (rp:List aQ) (r:aQ):Prop where
 f:∀b,qf.ob=some b->b<n
 h:∀b,qh.ob=some b->b<n
 v:∀b,r.v.ob=some b->b<n
 s:∀b,r.s.ob=some b->b<n
 p:∀q∈rp,(∀b,q.v.ob=some b->b<n)/\∀b,q.s.ob=some b->b<n
theorem Mt.olds (h:Mt base mb x qf qh rp r m w):ZY w.heap.size qf qh rp r:=by
 refine⟨fun b e=>(h.fr.lt e).2,fun b e=>(h.hp.lt e).2,fun b e=>(h.et.v.lt e).2,fun b e=>(h.et.s.lt e).2,fun q hq=>?_⟩
 obtain⟨i,hi⟩:=List.mem_iff_getElem?.1 hq;have hil:=(List.getElem?_eq_some_iff.1 hi).1;have hg:=h.ep i q _ hi (List.getElem?_eq_getElem (by rw[<-h.lp];exact hil))
 exact⟨fun b e=>(hg.v.lt e).2,fun b e=>(hg.s.lt e).2⟩
theorem Mt.aside {w':World} {n:Nat} (h:Mt base mb x qf qh rp r m w) (ho:ZY n qf qh rp r) (hn:mb<n) (hf:Fr (fun k=>n<=k) w w'):Mt base mb x qf qh rp r m w':=by
 exact h.fr' hf (by omega) (fun b e=>by have:=ho.f b e;omega) (fun b e=>by have:=ho.h b e;omega) (fun b e=>by have:=ho.v b e;omega) (fun b e=>by have:=ho.s b e;omega) (fun q hq=>⟨fun b e=>by have:=(ho.p q hq).1 b e;omega,fun b e=>by have:=(ho.p q hq).2 b e;omega⟩)
theorem Mt.size {w':World} {S:Nat->Prop} (h:Mt base mb x qf qh rp r m w) (hf:Fr S w w'):base<=w'.heap.size:=Nat.le_trans h.bl hf.size
theorem Mt.ob (h:Mt base mb x qf qh rp r m w) {k:Nat} (hk:Ob qf qh rp r k):base<=k/\k<w.heap.size:=by
 rcases hk with e|e|e|e|⟨q,hq,e⟩
 ·exact h.fr.lt e
 ·exact h.hp.lt e
 ·exact h.et.v.lt e
 ·exact h.et.s.lt e
 ·obtain⟨i,hi⟩:=List.mem_iff_getElem?.1 hq;have hil:=(List.getElem?_eq_some_iff.1 hi).1;have hg:=h.ep i q _ hi (List.getElem?_eq_getElem (by rw[<-h.lp];exact hil))
  rcases e with e|e
  ·exact hg.v.lt e
  ·exact hg.s.lt e
theorem Mt.Df {w1:World} {q':ai} {st':List Val} (h:Mt base mb x qf qh rp r m w) (hf:Fr (fun k=>r.s.ob=some k) w w1) (ho:fF aP 53 3 base q' st' w1) (hb:∀b,q'.ob=some b->r.s.ob=some b\/w.heap.size<=b):
 ∃g,qf.a=some ⟨g,0,none⟩/\g<w1.heap.size/\w1.cell? ⟨g,rp.length*4+3,none⟩=some (.slice r.s.a r.s.n r.s.c)/\w1.frozen? ⟨g,rp.length*4+3,none⟩=false/\
  Mt base mb x qf qh rp {r with s:=q'} {m with f:={m.f with stack:=st'}} (w1.setCell ⟨g,rp.length*4+3,none⟩ (.slice q'.a q'.n q'.c))/\Fr (Ob qf qh rp r) w (w1.setCell ⟨g,rp.length*4+3,none⟩ (.slice q'.a q'.n q'.c)):=by
 have hlt:∀b,r.s.ob=some b->base<=b/\b<w.heap.size:=fun b e=>h.et.s.lt e
 have hnm:¬r.s.ob=some mb:=fun e=>h.nm mb (.inr (.inr (.inr (.inl e)))) rfl;have Bv:=h.fr.fr hf (fun b e e2=>h.Az.2 b e e2);have hp1:=h.hp.fr hf (fun b e e2=>h.De.2 b e e2);have v1:=h.et.v.fr hf (fun b e e2=>h.et.d b e e2);have ep1:∀(i:Nat) (q:aQ) (g:Fm),rp[i]?=some q->m.pre[i]?=some g->Fo base q g w1:=fun i q g e1 e2=>by
  have hd:=h.Hq q (List.mem_of_getElem? e1);exact(h.ep i q g e1 e2).fr hf (fun b e e3=>hd.2.1 b e3 e) (fun b e e3=>hd.2.2 b e3 e)
 have hc:∀j,w1.cell? ⟨mb,j,none⟩=w.cell? ⟨mb,j,none⟩:=fun j=>hf.cell (p:=⟨mb,j,none⟩) h.mw hnm
 have hz:∀j,w1.frozen? ⟨mb,j,none⟩=w.frozen? ⟨mb,j,none⟩:=fun j=>hf.frozen (p:=⟨mb,j,none⟩) h.mw hnm
 obtain⟨g,ga,gb,gl,gc,gz,go,gf⟩:=Bv.put dA (i:=rp.length) (j:=3) (x:=r) (x':={r with s:=q'}) (u:=.slice q'.a q'.n q'.c) (by simp) (by decide) rfl;have hgo:∀(q:ai),Dj qf q->∀b,q.ob=some b->¬b=g:=fun q hd b hb e=>by
  subst e;exact hd b (Bv.obs (by simp) ga) hb
 have WX:∀b,q'.ob=some b->¬b=g:=fun b hb' e=>by
  rcases hb b hb' with e2|e2
  ·exact hgo r.s h.Az.2 b e2 e
  ·have hgl:g<w.heap.size:=(h.fr.lt (b:=g) (Bv.obs (by simp) ga)).2;omega
 have hgm:¬mb=g:=fun e=>h.nm g (.inl (Bv.obs (by simp) ga)) e.symm;have hap:∀(y:ai),Dj y r.s->(∀b,y.ob=some b->b<w.heap.size)->Dj y q':=fun y hy hl b e1 e2=>by
  rcases hb b e2 with e3|e3
  ·exact hy b e1 e3
  ·have:=hl b e1;omega
 have iT:Fr (Ob qf qh rp r) w (w1.setCell ⟨g,rp.length*4+3,none⟩ (.slice q'.a q'.n q'.c)):=(hf.mono (fun k _ e=> .inr (.inr (.inr (.inl e))))).trans (gf.mono (fun k _ e=> .inl (by rw[e];exact Bv.obs (by simp) ga)));have hset:(rp++ [r]).set rp.length {r with s:=q'}=rp++ [{r with s:=q'}]:=by simp
 rw[hset] at go;have hm1:=Nat.lt_of_lt_of_le h.mw hf.size;have k1:∀j,(w1.setCell ⟨g,rp.length*4+3,none⟩ (.slice q'.a q'.n q'.c)).cell? ⟨mb,j,none⟩=w.cell? ⟨mb,j,none⟩:=fun j=>(gf.cell (p:=⟨mb,j,none⟩) hm1 hgm).trans (hc j)
 refine⟨g,ga,gl,gc,gz,⟨(k1 0).trans h.c0,(k1 1).trans h.c1,(k1 2).trans h.c2,(k1 3).trans h.c3,(k1 4).trans h.c4,(k1 5).trans h.c5,(k1 6).trans h.c6,(k1 7).trans h.c7,(k1 8).trans h.c8,(k1 9).trans h.c9,(k1 10).trans h.c10,(k1 11).trans h.c11,(k1 12).trans h.c12,
  fun j=>(gf.frozen (p:=⟨mb,j,none⟩) hm1 hgm).trans ((hz j).trans (h.z j)),Nat.lt_of_lt_of_le h.ml iT.size,h.size iT,go,h.lp,fun i q f e1 e2=>?_,⟨h.et.fn,h.et.at_,v1.fr gf (hgo r.v h.Az.1),ho.fr gf WX,hap r.v h.et.d (fun b e=>(h.et.v.lt e).2)⟩,hp1.fr gf (hgo qh h.Bz),h.Bz,⟨h.Az.1,hap qf h.Az.2 (fun b e=>(h.fr.lt e).2)⟩,⟨h.De.1,hap qh h.De.2 (fun b e=>(h.hp.lt e).2)⟩,h.BA,h.Ae,fun q hq=>?_,h.AA,fun k hk=>?_⟩,iT⟩
 ·have hd:=h.BA q (List.mem_of_getElem? e1);exact(ep1 i q f e1 e2).fr gf (hgo q.v hd.1) (hgo q.s hd.2)
 ·have hd:=h.Hq q hq;obtain⟨i,hi⟩:=List.mem_iff_getElem?.1 hq;have hil:=(List.getElem?_eq_some_iff.1 hi).1;have hg:=h.ep i q _ hi (List.getElem?_eq_getElem (by rw[<-h.lp];exact hil))
  exact⟨hd.1,(hap q.v hd.2.1.symm (fun b e=>(hg.v.lt e).2)).symm,(hap q.s hd.2.2.symm (fun b e=>(hg.s.lt e).2)).symm⟩
 ·rcases hk with e|e|e|e|e
  ·exact h.nm k (.inl e)
  ·exact h.nm k (.inr (.inl e))
  ·exact h.nm k (.inr (.inr (.inl e)))
  ·rcases hb k e with e2|e2
   ·exact h.nm k (.inr (.inr (.inr (.inl e2))))
   ·have:=h.ml;omega
  ·exact h.nm k (.inr (.inr (.inr (.inr e))))
end
end
section
def fU (a:Ag):List (Int×Int):=[(a.id,1073741824),(a.bu,1073741824),(a.fuel,2000),(a.cells,60),(a.hops,12)]
def oD (p:Int×Int):Prop:=p.1<0\/p.2<p.1
def qB (a:Ag):Int:=if a.fr.length=0\/12<a.fr.length then 5 else if 60<a.hp.length+a.cells then 4 else 0
theorem Hr {a:Ag} {p:Int×Int} (h:p∈fU a) (hb:oD p):fq a=3:=by
 unfold fq;unfold oD at hb
 by_cases h1:a.id<0\/1073741824<a.id\/a.bu<0\/1073741824<a.bu
 ·rw[if_pos h1]
 ·rw[if_neg h1,if_pos];simp only[fU,List.mem_cons,List.not_mem_nil,or_false] at h;rcases h with rfl|rfl|rfl|rfl|rfl<;>simp only at hb<;>omega
theorem EA {a:Ag} (h:∀p∈fU a,¬oD p):fq a=qB a:=by
 have h1:=h (a.id,1073741824) (by simp[fU]);have h2:=h (a.bu,1073741824) (by simp[fU]);have h3:=h (a.fuel,2000) (by simp[fU]);have h4:=h (a.cells,60) (by simp[fU]);have h5:=h (a.hops,12) (by simp[fU]);unfold oD at h1 h2 h3 h4 h5;simp only at h1 h2 h3 h4 h5;unfold fq qB;rw[if_neg (by omega),if_neg (by omega)]
theorem OD {a:Ag} (h:YV a):∀p∈fU a,i64 p.1/\i64 p.2:=by
 intro p hp;have hn:=h.n;simp only[fU,List.mem_cons,List.not_mem_nil,or_false] at hp;rcases hp with rfl|rfl|rfl|rfl|rfl<;>simp only[i64] at hn⊢<;>omega
theorem Ht (a:Ag) (away:Bool) (k:Nat) {f:Fm} (h:a.fr.getD k Ar=f):dV a away k=if frameC a.pg f (jh a k away)≠0 then frameC a.pg f (jh a k away) else az (ah a.hp.length) (f.vars++f.stack):=by
 subst h;unfold dV;rw[qp]
theorem Hu (a:Ag) (k:Nat) (away:Bool) {f:Fm} (h:a.fr[k+1]?=some f):jh a k away=(17,f.fn):=by
 unfold jh;rw[if_pos (List.getElem?_eq_some_iff.1 h).1];simp[List.getD_eq_getElem?_getD,h]
theorem xP (a:Ag) (k:Nat) (away:Bool) (h:¬k+1<a.fr.length):jh a k away=if away then(13,0) else(0,0):=by
 unfold jh;rw[if_neg h]
theorem oF (x:Val):∀u∈aP x,u.oneCell'=true:=by
 intro u hu;simp only[aP,List.mem_cons,List.not_mem_nil,or_false] at hu;rcases hu with rfl|rfl|rfl<;>rfl
theorem Dh:(Tryz.prog.info? 53).map (fun i=>(i.zero,i.size,i.bytes))=some (some (.agg #[.int .i64 0,.int .i64 0,.string ⟨#[]⟩]),3,32):=by kernel_rfl
theorem xQ (w:World) (xa ya:ai) (xs ys:List Val) (hx:Sl aP 3 w xa.v xs) (hy:Sl aP 3 w ya.v ys) (h1:xs.length<=1000000) (h2:ys.length<=1000000):
 ∃(q1:ai) (mW:World) (q2:ai) (rG:World),(Builtin.append_ #[49,49] 49 #[.slice (some ⟨w.heap.size,0,none⟩) 0 0,.slice xa.a xa.n xa.c]).run Tryz.prog (w.alloc (.cells #[] 53)).drew=.ok (.slice q1.a q1.n q1.c) mW/\
  (Builtin.append_ #[49,49] 49 #[.slice q1.a q1.n q1.c,.slice ya.a ya.n ya.c]).run Tryz.prog mW=.ok (.slice q2.a q2.n q2.c) rG/\Fr nothing w (w.alloc (.cells #[] 53)).drew/\Fr nothing w mW/\Fr nothing w rG/\Own aP 53 3 w.heap.size q2 (xs++ys) rG:=by
 have gT:Fr nothing w (w.alloc (.cells #[] 53)).drew:=((Fr.refl _ _).alloc _).drew;have h0:=(Own.lit (enc:=aP) (T:=53) (base:=w.heap.size) w #[] [] rfl aK (Nat.le_refl _) (Nat.zero_le _)).new ((Fr.refl nothing _).drew);obtain⟨q1,mW,r1,o1,f1,t1⟩:=Own.app (x:=xa) Tryz.underlying49 Dh rfl (by decide) aK oF h0 (hx.fr gT (fun _ _=>id)) gT.size (by simp only[List.length_nil];unfold maxLen;omega) (by simp only[List.length_nil];omega)
 have Vx:Fr nothing w mW:=gT.then f1 (fun k hk e=>by have:=(h0.lt e).1;omega);obtain⟨q2,rG,r2,o2,f2,t2⟩:=Own.app (x:=ya) Tryz.underlying49 Dh rfl (by decide) aK oF o1 (hy.fr Vx (fun _ _=>id)) Vx.size (by simp only[List.nil_append];unfold maxLen;omega) (by simp only[List.nil_append];omega)
 exact⟨q1,mW,q2,rG,r1,r2,gT,Vx,Vx.then f2 (fun k hk e=>by have:=(o1.lt e).1;omega),by simpa using o2⟩
theorem OE {n S:Int} (hS:0<=S) (h:n<0):S≠n:=by omega
theorem OG {n S:Int} (hS:0<=S) (h:n<0\/(n !=S)=true):S≠n:=by
 rcases h with h|h
 ·omega
 ·intro e;rw[e] at h;simp at h
theorem OH {n S:Int} (h:0<=n/\(n !=S)=false):n=S:=by simpa using h.2
theorem Mj {p:Pz} (h:aU p=0) {c:Cz} (hc:c∈p.cs):(0<=c.nv/\c.nv<=8/\c.ins.length<=200/\c.ins.length≠0)/\(aj c.ins).2=0/\(∀i∈c.ins,i.op=17->0<=i.b)/\∀i∈c.ins,i.op=13->i.a=0:=by
 unfold aU at h;split at h
 ·rename_i hx;exact absurd h hx
 rename_i hx
 have hz:=iR (Classical.not_not.1 hx);have hb:=hz.2.2.2.2.2 c hc;have h2:=dw h c hc;unfold iQ at h2;split at h2
 ·rename_i h3;exact absurd h2 h3
 rename_i h3
 have hin:=dw (Classical.not_not.1 h3);refine⟨by omega,h2,fun i hi ho=>?_,fun i hi ho=>?_⟩
 ·have h4:=hin i hi;unfold CX at h4;split at h4
  ·cases h4
  split at h4
  ·cases h4
  split at h4
  ·cases h4
  rename_i h5
  have h6:i.b=bC p i:=Classical.not_not.1 h5;rw[h6];unfold bC;rw[if_pos ho];unfold Me;cases hg:p.cs[i.a.toNat]? with
  |none=>simp
  |some c'=>simpa using(hz.2.2.2.2.2 c' (List.mem_of_getElem? hg)).1
 ·have h4:=hin i hi;unfold CX at h4;split at h4
  ·cases h4
  split at h4
  ·cases h4
  rename_i h5
  have h6:DR i.op=0:=by rw[ho];rfl
  have h7:DT p c i.op=0:=by rw[ho];rfl
  rw[h6,h7] at h5;omega
end
section
abbrev je (e:Ev):Value:=.agg #[.int .i64 e.k,.string (bs e.t),.int .i64 e.e]
theorem jK (n:Int) (w:World):
 Calls Tryz.prog 17 #[.int .i64 n] w fun e w'=>e=.returned (je (bQ n))/\Fr nothing w w':=by
 have HF:Hid (∀u1 u2 u3,Fr nothing w ((((w.alloc (.cells #[.int .i64 0,.string (bs []),.int .i64 0] 39)).setCell ⟨w.heap.size,0,none⟩ u1).setCell ⟨w.heap.size,1,none⟩ u2).setCell ⟨w.heap.size,2,none⟩ u3)):=fun u1 u2 u3=>((((Fr.refl nothing w).alloc _).setCell (p:=⟨w.heap.size,0,none⟩) (.inr (Nat.le_refl _)) u1).setCell (p:=⟨w.heap.size,1,none⟩) (.inr (Nat.le_refl _)) u2).setCell (p:=⟨w.heap.size,2,none⟩) (.inr (Nat.le_refl _)) u3
 go_enter Tryz.func17,Tryz.ntmps17
 go_wp2
 refine bodyPost_ret (v:=je (bQ n)) (by simp[results,Tryz.results17,go_sem,bs]) rfl ⟨rfl,?_⟩
 exact(Fr.refl _ _).alloc _
theorem oG (n:Int) (w:World):
 Calls Tryz.prog 81 #[.int .i64 n] w fun e w'=>e=.returned (vv (si n))/\Fr nothing w w':=by
 have hv:vv (si n)=vv ⟨0,n.tmod 1073741825,[]⟩:=rfl;have e1:IntKind.i64.wrap (n.tmod 1073741825)=n.tmod 1073741825:=by
  have a1:=Int.tmod_lt_of_pos n (show(0:Int)<1073741825 by decide);have a2:=Int.tmod_lt_of_pos (-n) (show(0:Int)<1073741825 by decide);rw[Int.neg_tmod] at a2;exact aO _ (by omega) (by omega)
 rw[hv];clear hv
 go_enter Tryz.func81,Tryz.ntmps81
 go_wp2
 refine bodyPost_ret (v:=vv ⟨0,n.tmod 1073741825,[]⟩) (by simp[results,Tryz.results81,go_sem,bs]) rfl ⟨rfl,?_⟩
 exact(Fr.refl _ _).alloc _
theorem ng (n:Int) (w:World):
 Calls Tryz.prog 28 #[.int .i64 n] w fun e w'=>e=.returned (vv ⟨0,n,[]⟩)/\Fr nothing w w':=by
 go_enter Tryz.func28,Tryz.ntmps28
 go_wp2
 refine bodyPost_ret (v:=vv ⟨0,n,[]⟩) (by simp[results,Tryz.results28,go_sem,bs]) rfl ⟨rfl,?_⟩
 exact(Fr.refl _ _).alloc _
section
variable {base mb : Nat} {x : Fx} {qf qh : ai} {rp : List aQ} {r : aQ} {m : Mc} {w : World}
theorem lY (h:Mt base mb x qf qh rp r m w) (hl:rp.length<=1000):
 Calls Tryz.prog 38 #[.pointer (some ⟨mb,0,none⟩)] w fun e w'=>(∃g,qf.a=some ⟨g,0,none⟩/\e=.returned (.pointer (some ⟨g,rp.length*4,none⟩)))/\Fr nothing w w':=by
 have hq:=h.frs.2;obtain⟨g,hg,-⟩:=h.fr.put dA (i:=rp.length) (j:=3) (x:=r) (x':=r) (u:=.slice r.s.a r.s.n r.s.c) (by simp) (by decide) rfl;obtain⟨qa,qn,qc⟩:=qf;simp only at hg hq;subst hg hq;have c4:=h.c4;have hx:IntKind.i64.wrap (rp.length:Int)=(rp.length:Int):=aO _ (by omega) (by omega);have hx2:0<=(rp.length:Int)/\(rp.length:Int)<(rp.length:Int)+1:=by omega
 clear h
 go_enter Tryz.func38,Tryz.ntmps38
 go_wp2_with fail
 refine wp_region_held_drew (S:=fun w'=>w'.cell? ⟨mb,4,none⟩=some (.slice (some ⟨g,0,none⟩) (rp.length+1) qc)) (by kernel_rfl) c4 (fun hHeld=>?_)
 refine tk 0 ?_ (hy:=by intro w hSw;(try dsimp only at hSw);have hS1:=hSw;go_simp;try with_reducible rfl)
 refine tk 1 ?_ (hy:=by intro w hSw;(try dsimp only at hSw);have hS1:=hSw;go_simp;try with_reducible rfl)
 refine tk 2 ?_ (hy:=by intro w hSw;(try dsimp only at hSw);have hS1:=hSw;go_simp;try with_reducible rfl)
 refine tk 3 ?_ (hy:=by intro w hSw;(try dsimp only at hSw);have hS1:=hSw;go_simp;try with_reducible rfl)
 refine tk 4 ?_ (hy:=by intro w hSw;(try dsimp only at hSw);have hS1:=hSw;go_simp;try with_reducible rfl)
 refine tk 5 ?_ (hy:=by intro w hSw;(try dsimp only at hSw);have hS1:=hSw;go_simp;try with_reducible rfl)
 refine tk 6 ?_ (hy:=by intro w hSw;(try dsimp only at hSw);have hS1:=hSw;go_simp;try with_reducible rfl)
 refine tk 7 ?_ (hy:=by intro w hSw;(try dsimp only at hSw);have hS1:=hSw;go_simp;try with_reducible rfl)
 refine tk 8 ?_ (hy:=by intro w hSw;(try dsimp only at hSw);have hS1:=hSw;go_simp;try with_reducible rfl)
 refine tk 9 ?_ (hy:=by intro w hSw;(try dsimp only at hSw);have hS1:=hSw;go_simp;try with_reducible rfl)
 refine tk 10 ?_ (hy:=by intro w hSw;(try dsimp only at hSw);have hS1:=hSw;go_simp;try with_reducible rfl)
 refine tk 11 ?_ (hy:=by intro w hSw;(try dsimp only at hSw);have hS1:=hSw;go_simp;try with_reducible rfl)
 refine tk 12 ?_ (hy:=by intro w hSw;(try dsimp only at hSw);go_simp;first|done|with_reducible rfl|exact Eq.refl _|(rw[if_pos hx2];rfl))
 refine tk 13 ?_
 refine wpAnyH_done (by kernel_rfl) ?_ _
 go_wp2_with fail
 go_ret
 exact⟨⟨g,rfl,rfl⟩,(Fr.refl _ _).drew⟩
theorem fC (h:Mt base mb x qf qh rp r m w) (hl:rp.length<=1000) (hs:m.f.stack.length<=100000) (v:Val):
 Calls Tryz.prog 27 #[.pointer (some ⟨mb,0,none⟩),vv v] w fun e w'=>e=.returned (.tuple #[])/\(∃q',Mt base mb x qf qh rp {r with s:=q'} {m with f:=bT m.f v} w'/\∀k,Ob qf qh rp {r with s:=q'} k->Ob qf qh rp r k\/w.heap.size<=k)/\Fr (Ob qf qh rp r) w w':=by
 have FA:Fr nothing w (w.alloc (.cells #[.int .i64 v.k,.int .i64 v.n,.string (bs v.t)] 53)):=(Fr.refl _ _).alloc _;have mA:=af (Fr.refl nothing (w.alloc (.cells #[.int .i64 v.k,.int .i64 v.n,.string (bs v.t)] 53))) id;have zA:(w.alloc (.cells #[.int .i64 v.k,.int .i64 v.n,.string (bs v.t)] 53)).heap.size=w.heap.size+1:=by simp
 have KO:=hide (lY (h.new FA) hl);have b0:=mA.1 0;have b1:=mA.1 1;have b2:=mA.1 2;have bl:=mA.2.2;have H0:=hide (h.new FA);have dL:=hide FA;have pQ:∃x,w.alloc (.cells #[.int .i64 v.k,.int .i64 v.n,.string (bs v.t)] 53)=x:=⟨_,rfl⟩
 obtain⟨w1,pQ⟩:=pQ;rw[pQ] at KO H0 dL b0 b1 b2 bl zA;have hslt:∀b,r.s.ob=some b->b<w.heap.size:=fun b e=>(h.et.s.lt e).2
 clear mA FA h
 go_enter Tryz.func27,Tryz.ntmps27
 go_wp2_with (go_at_call 38;refine KO.out.mono ?_;rintro e w2 ⟨⟨g,hg,rfl⟩,hf2⟩;have bq:=hide hf2;have HG:=hide hg;have n0:=(hf2.cell (p:=⟨w.heap.size,0,none⟩) bl id).trans b0;have n1:=(hf2.cell (p:=⟨w.heap.size,1,none⟩) bl id).trans b1;have n2:=(hf2.cell (p:=⟨w.heap.size,2,none⟩) bl id).trans b2;have nl:=Nat.lt_of_lt_of_le bl hf2.size;clear hf2 hg)
 have H2:=H0.out.new bq.out;obtain⟨g',hg',-,gl,gc,gz,-⟩:=H2.fr.put dA (i:=rp.length) (j:=3) (x:=r) (x':=r) (u:=.slice r.s.a r.s.n r.s.c) (by simp) (by decide) rfl;obtain rfl:g=g':=by have:=HG.out.symm.trans hg';simpa using this
 have hgc:w2.cell? ⟨g,rp.length*4+3,none⟩=some (.slice r.s.a r.s.n r.s.c):=gc;have FA:Fr nothing w2 (w2.alloc (.cells #[.int .i64 v.k,.int .i64 v.n,.string (bs v.t)] 53)).drew:=((Fr.refl nothing w2).alloc _).drew;have zB:(w2.alloc (.cells #[.int .i64 v.k,.int .i64 v.n,.string (bs v.t)] 53)).drew.heap.size=w2.heap.size+1:=by simp[World.drew]
 obtain⟨q',w4,r1,o4,f4,t4⟩:=fF.app (x:=⟨some ⟨w2.heap.size,0,none⟩,1,1⟩) Tryz.underlying49 Dh rfl (by decide) aK oF (H2.et.s.new FA) ((xK (enc:=aP) (sz:=3) (T:=53) w2 #[.int .i64 v.k,.int .i64 v.n,.string (bs v.t)] v rfl).fr (Fr.refl nothing _).drew (fun _ _=>id)) (Nat.le_trans H2.bl FA.size) (by simp only[List.length_singleton];unfold maxLen;omega) (by simp only[List.length_singleton];omega);have ZZ:Fr (fun k=>r.s.ob=some k) w2 w4:=(FA.mono (fun _ _ e=>e.elim)).trans f4;obtain⟨g2,hg2,hl2,hc2,hz2,hM,iT⟩:=H2.Df ZZ o4 (fun b hb=>(t4 b hb).imp id (fun e=>by rw[zB] at e;omega))
 obtain rfl:g=g2:=by have:=HG.out.symm.trans hg2;simpa using this
 have HM:=hide hM;have hsz2:=Nat.le_trans dL.out.size bq.out.size;have WY:Hid (∀k,Ob qf qh rp {r with s:=q'} k->Ob qf qh rp r k\/w.heap.size<=k):=fun k hk=>by
  rcases hk with e|e|e|e|e
  ·exact .inl (.inl e)
  ·exact .inl (.inr (.inl e))
  ·exact .inl (.inr (.inr (.inl e)))
  ·rcases t4 k e with e|e
   ·exact .inl (.inr (.inr (.inr (.inl e))))
   ·rw[zB] at e;exact .inr (by omega)
  ·exact .inl (.inr (.inr (.inr (.inr e))))
 have fV:Hid (Fr (Ob qf qh rp r) w (w4.setCell ⟨g,rp.length*4+3,none⟩ (.slice q'.a q'.n q'.c))):=((dL.out.trans bq.out).mono (fun _ _ e=>e.elim)).trans iT;have xR:∀w',Fr nothing w2 w'->w'.cell? ⟨g,rp.length*4+3,none⟩=some (.slice r.s.a r.s.n r.s.c)/\w'.cell? ⟨w.heap.size,0,none⟩=some (.int .i64 v.k)/\w'.cell? ⟨w.heap.size,1,none⟩=some (.int .i64 v.n)/\w'.cell? ⟨w.heap.size,2,none⟩=some (.string (bs v.t)):=fun w' hf=>⟨(hf.cell (p:=⟨g,_,none⟩) gl id).trans hgc,(hf.cell (p:=⟨w.heap.size,0,none⟩) nl id).trans n0,(hf.cell (p:=⟨w.heap.size,1,none⟩) nl id).trans n1,(hf.cell (p:=⟨w.heap.size,2,none⟩) nl id).trans n2⟩
 have hnb:¬r.s.ob=some w.heap.size:=fun e=>by have:=hslt _ e;omega
 have Hw:w4.cell? ⟨g,rp.length*4+3,none⟩=some (.slice r.s.a r.s.n r.s.c)/\w4.cell? ⟨w.heap.size,0,none⟩=some (.int .i64 v.k)/\w4.cell? ⟨w.heap.size,1,none⟩=some (.int .i64 v.n)/\w4.cell? ⟨w.heap.size,2,none⟩=some (.string (bs v.t)):=⟨hc2,(ZZ.cell (p:=⟨w.heap.size,0,none⟩) nl hnb).trans n0,(ZZ.cell (p:=⟨w.heap.size,1,none⟩) nl hnb).trans n1,(ZZ.cell (p:=⟨w.heap.size,2,none⟩) nl hnb).trans n2⟩;clear hM iT o4 f4 t4 ZZ hg' gc gz H2 hg2 n0 n1 n2 b0 b1 b2 pQ KO;refine aS (S:=fun w'=>w'.cell? ⟨g,rp.length*4+3,none⟩=some (.slice r.s.a r.s.n r.s.c)/\w'.cell? ⟨w.heap.size,0,none⟩=some (.int .i64 v.k)/\w'.cell? ⟨w.heap.size,1,none⟩=some (.int .i64 v.n)/\w'.cell? ⟨w.heap.size,2,none⟩=some (.string (bs v.t))) (by kernel_rfl) [10] (xR _ (Fr.refl nothing w2).drew) (fun hHeld=>?_)
 refine bM 0 ?_
 refine bM 1 ?_
 refine bM 2 ?_
 refine bM 3 ?_
 refine bM 4 ?_
 refine bM 5 ?_
 refine jN 6 (fun K hK=>?_)
 go_simp;refine hK.out _ _ (xR _ FA) ?_
 clear hK K hHeld
 try simp only[Act.put,sA,sZ,sS]
 refine jN 7 (fun K hK=>?_)
 refine fT rfl _ _ 49 rfl _ _ (by simp[Act.eval]) (by simp[Act.eval]) r1 ?_
 refine hK.out _ _ Hw ?_
 clear hK K
 try simp only[Act.put,sA,sZ,sS]
 refine jN 8 (fun K hK=>?_)
 go_simp;refine hK.out _ _ Hw ?_
 clear hK K
 try simp only[Act.put,sA,sZ,sS]
 have hHeld:=Hw;refine bM 9 ?_
 refine Al 10 (fun K hK=>?_)
 go_simp;refine hK.out _ _ ?_
 clear hK K
 try simp only[Act.put,sA,sZ,sS]
 refine wpAny_done (by kernel_rfl) ?_ _
 go_wp2_with fail
 exact bodyPost_end (v:=.tuple #[]) (by simp[results,go_sem,Tryz.f27]) rfl ⟨rfl,⟨q',HM.out,WY.out⟩,fV.out⟩
theorem dM (h:Mt base mb x qf qh rp r m w) (hl:rp.length<=1000) {st:List Val} {v:Val} (hst:m.f.stack=st++ [v]) (hs:st.length<=100000):
 Calls Tryz.prog 40 #[.pointer (some ⟨mb,0,none⟩)] w fun e w'=>e=.returned (vv v)/\Mt base mb x qf qh rp {r with s:=⟨r.s.a,st.length,r.s.c⟩} {m with f:={m.f with stack:=st}} w'/\(∀k,Ob qf qh rp {r with s:=⟨r.s.a,st.length,r.s.c⟩} k->Ob qf qh rp r k)/\Fr (Ob qf qh rp r) w w':=by
 have FA:Fr nothing w (w.alloc (.cells #[.int .i64 0,.int .i64 0,.string ⟨#[]⟩] 53)):=(Fr.refl _ _).alloc _;have mA:=af (Fr.refl nothing (w.alloc (.cells #[.int .i64 0,.int .i64 0,.string ⟨#[]⟩] 53))) id;have KO:=hide (lY (h.new FA) hl);have HO:=hide h.olds;have HML:=hide h.ml;have hse:m.f.stack.length=st.length+1:=by rw[hst];simp
 have hsv:m.f.stack[st.length]?=some v:=by rw[hst];simp
 obtain⟨sb,so,es,ds,-,-,-⟩:=kr (h.et.s.sl aK) hsv;have hsn:r.s.n=st.length+1:=by have:=h.et.s.n;omega
 have hcap:st.length+1<=r.s.c:=by have:=h.et.s.le;omega
 obtain⟨⟩:=();obtain⟨Hy,rat,rv,⟨sa,sn,sc⟩⟩:=r;simp only at es hsn hcap;subst es hsn;have b0:=mA.1 0;have b1:=mA.1 1;have b2:=mA.1 2;have bz:=mA.2.1;have bl:=mA.2.2;have H0:=hide (h.new FA);have dL:=hide FA;obtain⟨w1,pQ⟩:∃w1,w.alloc (.cells #[.int .i64 0,.int .i64 0,.string ⟨#[]⟩] 53)=w1:=⟨_,rfl⟩
 rw[pQ] at KO H0 dL b0 b1 b2 bl bz;clear mA FA h ds
 go_enter Tryz.func40,Tryz.ntmps40
 go_wp2_with (go_at_call 38;refine KO.out.mono ?_;rintro e w2 ⟨⟨g,hg,rfl⟩,hf2⟩;have bq:=hide hf2;have HG:=hide hg;have n0:=(hf2.cell (p:=⟨w.heap.size,0,none⟩) bl id).trans b0;have n1:=(hf2.cell (p:=⟨w.heap.size,1,none⟩) bl id).trans b1;have n2:=(hf2.cell (p:=⟨w.heap.size,2,none⟩) bl id).trans b2;have nz0:=(hf2.frozen (p:=⟨w.heap.size,0,none⟩) bl id).trans (bz 0);have nz1:=(hf2.frozen (p:=⟨w.heap.size,1,none⟩) bl id).trans (bz 1);have nz2:=(hf2.frozen (p:=⟨w.heap.size,2,none⟩) bl id).trans (bz 2);have nl:=Nat.lt_of_lt_of_le bl hf2.size;have H2:=H0.out.new hf2;obtain⟨g',hg',-,gl,gc,gz,-⟩:=H2.fr.put dA (i:=rp.length) (j:=3) (x:=⟨Hy,rat,rv,⟨some ⟨sb,so,none⟩,st.length+1,sc⟩⟩) (x':=⟨Hy,rat,rv,⟨some ⟨sb,so,none⟩,st.length+1,sc⟩⟩) (u:=.slice (some ⟨sb,so,none⟩) (st.length+1) sc) (by simp) (by decide) rfl;obtain rfl:g=g':=(by have:=hg.symm.trans hg';simpa using this);have hgc:w2.cell? ⟨g,rp.length*4+3,none⟩=some (.slice (some ⟨sb,so,none⟩) (st.length+1) sc):=gc;obtain⟨sb2,so2,es2,ds2,VA,v1',v2'⟩:=kr (H2.et.s.sl aK) hsv;simp only[Option.some.injEq,Addr.mk.injEq,and_true] at es2;obtain⟨rfl,rfl⟩:=es2;have mF:=hide H2;clear hf2 hg H2 gc hg')
 have ho:fF aP 53 3 base ⟨some ⟨sb,so,none⟩,st.length,sc⟩ st w2:=by
  have:=mF.out.et.s.cut aK st.length (by rw[hse];omega);rw[hst,List.take_append_of_le_length (Nat.le_refl _),List.take_length] at this;exact this
 obtain⟨g2,hg2,-,-,-,hM,iT⟩:=mF.out.Df (w1:=w2) (Fr.refl _ _) ho (fun b hb=> .inl hb);obtain rfl:g=g2:=by have:=HG.out.symm.trans hg2;simpa using this
 have hgw:g<w.heap.size:=HO.out.f g (mF.out.fr.obs (by simp) hg2);have jd:Fr (fun k=>k=g) w2 (w2.setCell ⟨g,rp.length*4+3,none⟩ (.slice (some ⟨sb,so,none⟩) st.length sc)):=(Fr.refl (fun k=>k=g) w2).setCell (p:=⟨g,rp.length*4+3,none⟩) (.inl rfl) _;have k0:=(jd.cell (p:=⟨w.heap.size,0,none⟩) nl (fun e=>by have e':w.heap.size=g:=e;omega)).trans n0
 have k1:=(jd.cell (p:=⟨w.heap.size,1,none⟩) nl (fun e=>by have e':w.heap.size=g:=e;omega)).trans n1;have k2:=(jd.cell (p:=⟨w.heap.size,2,none⟩) nl (fun e=>by have e':w.heap.size=g:=e;omega)).trans n2
 have kl:=Nat.lt_of_lt_of_le nl jd.size;have hMM:Mt base mb x qf qh rp ⟨Hy,rat,rv,⟨some ⟨sb,so,none⟩,st.length,sc⟩⟩ {m with f:={m.f with stack:=st}} (w2.setCell ⟨g,rp.length*4+3,none⟩ (.slice (some ⟨sb,so,none⟩) st.length sc)):=hM;have hFF:Fr (Ob qf qh rp ⟨Hy,rat,rv,⟨some ⟨sb,so,none⟩,st.length+1,sc⟩⟩) w (w2.setCell ⟨g,rp.length*4+3,none⟩ (.slice (some ⟨sb,so,none⟩) st.length sc)):=((dL.out.trans bq.out).mono (fun _ _ e=>e.elim)).trans iT;generalize w2.setCell ⟨g,rp.length*4+3,none⟩ (.slice (some ⟨sb,so,none⟩) st.length sc)=w5 at*;have fK:Fr (fun k=>w.heap.size<=k) w5 ((((w5.setCell ⟨w.heap.size,0,none⟩ (.int .i64 v.k)).setCell ⟨w.heap.size,1,none⟩ (.int .i64 v.n)).setCell ⟨w.heap.size,2,none⟩ (.string (bs v.t))).alloc (.cells #[.int .i64 v.k,.int .i64 v.n,.string (bs v.t)] 53)):=
  ((((Fr.refl (fun k=>w.heap.size<=k) w5).setCell (p:=⟨w.heap.size,0,none⟩) (.inl (Nat.le_refl _)) _).setCell (p:=⟨w.heap.size,1,none⟩) (.inl (Nat.le_refl _)) _).setCell (p:=⟨w.heap.size,2,none⟩) (.inl (Nat.le_refl _)) _).alloc _
 refine bodyPost_ret (v:=vv v) (by simp[results,Tryz.results40,go_sem,k0,k1,k2,kl]) rfl ⟨rfl,hMM.aside ⟨HO.out.f,HO.out.h,HO.out.v,fun b e=>HO.out.s b e,HO.out.p⟩ HML.out fK,fun k hk=>hk,hFF.then fK (fun k hk e=>absurd e (by omega))⟩
end
end
end Go.Proofs.YtbcadjgpcfmkfaaGreatDoor
