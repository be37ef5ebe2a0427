/- RB2; RJoin; RRep; RSts0. -/
import Derived.Maps.RangeWalk
import Derived.Deep.Onto
import Derived.Test.YtbcadjgpcfmkfaaGreatDoorPartU7
import Derived.Test.YtbcadjgpcfmkfaaGreatDoorPartU35
import Derived.Test.YtbcadjgpcfmkfaaGreatDoorPartU1
set_option maxHeartbeats 0
set_option maxRecDepth 100000
set_option linter.unusedSimpArgs false
namespace Go.Proofs.YtbcadjgpcfmkfaaGreatDoor
open Go Go.RowKit
section
abbrev ap (T:Nat->Prop) (w:World):Nat->Prop:=fun k=>¬T k/\k<w.heap.size
theorem Lj {T T':Nat->Prop} {w w':World} (hf:Fr T w w') (h:∀k,T' k->T k\/w.heap.size<=k):∀k,ap T w k->ap T' w' k:=fun k hk=>⟨fun e=>(h k e).elim hk.1 (fun e=>by have:=hk.2;omega),Nat.lt_of_lt_of_le hk.2 hf.size⟩
theorem QH {w:World} {b:Nat} {u0 u1 u2:Value} (v0 v1 v2:Value) (m0:w.cell? ⟨b,0,none⟩=some u0) (m1:w.cell? ⟨b,1,none⟩=some u1) (m2:w.cell? ⟨b,2,none⟩=some u2):
 ∃w',w'=((w.setCell ⟨b,0,none⟩ v0).setCell ⟨b,1,none⟩ v1).setCell ⟨b,2,none⟩ v2/\w'.cell? ⟨b,0,none⟩=some v0/\w'.cell? ⟨b,1,none⟩=some v1/\w'.cell? ⟨b,2,none⟩=some v2/\Fr (fun k=>k=b) w w':=by
 refine⟨_,rfl,?_,?_,?_,?_⟩
 ·rw[World.cell?_setCell_other _ ⟨b,2,none⟩ ⟨b,0,none⟩ _ (by simp),World.cell?_setCell_other _ ⟨b,1,none⟩ ⟨b,0,none⟩ _ (by simp)];exact World.cell?_setCell_same _ _ _ m0
 ·rw[World.cell?_setCell_other _ ⟨b,2,none⟩ ⟨b,1,none⟩ _ (by simp)];exact World.cell?_setCell_same _ _ _ (by rw[World.cell?_setCell_other _ ⟨b,0,none⟩ ⟨b,1,none⟩ _ (by simp)];exact m1)
 ·exact World.cell?_setCell_same _ _ _ (by rw[World.cell?_setCell_other _ ⟨b,1,none⟩ ⟨b,2,none⟩ _ (by simp),World.cell?_setCell_other _ ⟨b,0,none⟩ ⟨b,2,none⟩ _ (by simp)];exact m2)
 ·exact(((Fr.refl (fun k=>k=b) w).setCell (p:=⟨b,0,none⟩) (.inl rfl) _).setCell (p:=⟨b,1,none⟩) (.inl rfl) _).setCell (p:=⟨b,2,none⟩) (.inl rfl) _
theorem set2 {w:World} {b:Nat} {u0 u1:Value} (v0 v1:Value) (m0:w.cell? ⟨b,0,none⟩=some u0) (m1:w.cell? ⟨b,1,none⟩=some u1):
 ∃w',w'=(w.setCell ⟨b,0,none⟩ v0).setCell ⟨b,1,none⟩ v1/\w'.cell? ⟨b,0,none⟩=some v0/\w'.cell? ⟨b,1,none⟩=some v1/\Fr (fun k=>k=b) w w':=by
 refine⟨_,rfl,?_,?_,?_⟩
 ·rw[World.cell?_setCell_other _ ⟨b,1,none⟩ ⟨b,0,none⟩ _ (by simp)];exact World.cell?_setCell_same _ _ _ m0
 ·exact World.cell?_setCell_same _ _ _ (by rw[World.cell?_setCell_other _ ⟨b,0,none⟩ ⟨b,1,none⟩ _ (by simp)];exact m1)
 ·exact((Fr.refl (fun k=>k=b) w).setCell (p:=⟨b,0,none⟩) (.inl rfl) _).setCell (p:=⟨b,1,none⟩) (.inl rfl) _
theorem Q6 {A:dQ} {G:Bs->Int} (h:∀t,(A.f t).getD 0=G t) (t:Bs) (i:Nat):∀x,((A.put t i).f x).getD 0=upd G t i x:=by
 intro x;unfold dQ.put upd;dsimp only
 by_cases e:x=t
 ·simp[e]
 ·rw[if_neg e,if_neg e];exact h x
theorem Uw {ws:List Bs} {t:Bs} (h:ws.contains t=true):GK ws t=ws:=by unfold GK;rw[if_pos h]
theorem Q7 {ws:List Bs} {t:Bs} (h:ws.contains t=false):GK ws t=ws++ [t]/\GJ ws t=ws.length:=by
 refine⟨by unfold GK;rw[if_neg (by rw[h];decide)],?_⟩
 unfold GJ;have:t∉ws:=by simpa using h
 exact List.idxOf_eq_length this
theorem Ux:(Tryz.prog.info? 9).map (fun i=>(i.zero,i.size,i.bytes))=some (some (.string ⟨#[]⟩),1,16):=by kernel_rfl
abbrev fo (a:qH):Obj:=.cells #[.string (bs a.t),.slice a.p.a a.p.n a.p.c,.slice a.b.a a.b.n a.b.c] 117
theorem Fv {w w':World} {r:qH} {S:Nat->Prop} (hf:Fr S (w.alloc (fo r)) w') (hs:¬S w.heap.size):w'.cell? ⟨w.heap.size,0,none⟩=some (.string (bs r.t))/\w'.cell? ⟨w.heap.size,1,none⟩=some (.slice r.p.a r.p.n r.p.c)/\w'.cell? ⟨w.heap.size,2,none⟩=some (.slice r.b.a r.b.n r.b.c)/\w.heap.size<w'.heap.size:=by
 have hn:=af hf hs;exact⟨hn.1 0,hn.1 1,hn.1 2,hn.2.2⟩
end
section
structure gM (base:Nat) (q:ai) (l:List In) (w:World):Prop where
 n:q.n=l.length
 row:w.ownsRow base 82 3 q.v l.length (l.flatMap encI)
theorem gM.sl {base:Nat} {q:ai} {l:List In} {w:World} (h:gM base q l w):Sl encI 3 w q.v l:=eX lQ h.row
theorem gM.fr {base:Nat} {q:ai} {l:List In} {w w':World} {S:Nat->Prop} (h:gM base q l w) (hf:Fr S w w') (hs:∀b,q.v.ownBlock=some b->¬S b):gM base q l w':=⟨h.n,aI h.row hf hs⟩
theorem gM.lt {base:Nat} {q:ai} {l:List In} {w:World} (h:gM base q l w) {b:Nat} (hb:q.v.ownBlock=some b):base<=b/\b<w.heap.size:=h.row.lt b hb
theorem gM.nil (base:Nat) (w:World):gM base aN [] w:=⟨rfl,World.ownsRow_nil _ _ _ _⟩
theorem Uy (l:List In):∀u∈l.flatMap encI,u.oneCell'=true:=by
 intro u hu;obtain⟨x,_,hx⟩:=List.mem_flatMap.1 hu;simp only[encI,List.mem_cons,List.not_mem_nil,or_false] at hx;rcases hx with rfl|rfl|rfl<;>rfl
theorem gM.app {base:Nat} {q x:ai} {xs ys:List In} {w:World} (h:gM base q xs w) (hs:Sl encI 3 w x.v ys) (hb:base<=w.heap.size) (hl:xs.length+ys.length<=1000000):
 ∃(q':ai) (w':World),(Builtin.append_ #[77,77] 77 #[.slice q.a q.n q.c,.slice x.a x.n x.c]).run Tryz.prog w=.ok (.slice q'.a q'.n q'.c) w'/\gM base q' (xs++ys) w'/\Fr (fun k=>q.v.ownBlock=some k) w w'/\(∀b,q'.v.ownBlock=some b->q.v.ownBlock=some b\/w.heap.size<=b):=by
 obtain⟨j0,hj0,hy0,hy1,hy2⟩:=info_parts WI;obtain⟨hn,hm⟩:=ay hs;obtain⟨xa,xn,xc⟩:=x;simp only at hn;subst hn;rcases Nat.eq_zero_or_pos ys.length with h0|hp
 ·have e:ys=[]:=List.length_eq_zero_iff.1 h0;subst e;have hsrc:Src Tryz.prog j0.size 77 (.slice xa 0 xc) 0 [] w:=by
   cases xa with
   |none=>exact Src.ofNil w Tryz.underlying77 xc
   |some ad=>exact Src.ofSlice w Tryz.underlying77 ad 0 xc [] (by simp) (by simp) (by simp)
  have hle:q.n<=q.c:=by
   rcases h.row.2 with⟨e,_⟩|⟨g,cap,cur,e,_,_,h2,_⟩
   ·simp only[ai.v,Value.slice.injEq] at e;omega
   ·simp only[ai.v,Value.slice.injEq] at e;have:=h.n;omega
  refine⟨q,w,run_append_nothing w 77 77 77 82 j0 Tryz.underlying77 hj0 q.a q.n q.c hle (.slice xa 0 xc) hsrc,by rw[List.append_nil];exact h,Fr.refl _ _,fun b hb=> .inl hb⟩
 ·have hfl:(ys.flatMap encI).length=ys.length*3:=bK encI 3 lQ ys;have hget:∀j u,(ys.flatMap encI)[j]?=some u->∃ad,xa=some ad/\w.cell? (ad.add j)=some u:=by
   intro j u hj;have hjl:j<ys.length*3:=by rw[<-hfl];exact(List.getElem?_eq_some_iff.1 hj).1
   obtain⟨ao,cap,he,_,hc⟩:=hs;simp only[Value.slice.injEq] at he;obtain⟨rfl,_,_⟩:=he;have hi:j / 3<ys.length:=by omega
   obtain⟨b,off,rfl,_,hcell⟩:=hc (j / 3) _ (List.getElem?_eq_getElem hi);refine⟨_,rfl,?_⟩
   have h3:(encI ys[j / 3])[j%3]?=some u:=by
    have hk:∃u',(encI ys[j / 3])[j%3]?=some u':=⟨_,List.getElem?_eq_getElem (by rw[lQ];omega)⟩
    obtain⟨u',hu'⟩:=hk;have:=flat_get encI 3 lQ ys (j / 3) _ (j%3) u' (List.getElem?_eq_getElem hi) hu';rw[show j / 3*3+j%3=j by omega,hj] at this;rw[hu',this]
   rw[add_eq,<-hcell (j%3) u h3]
   congr 2
   omega
  obtain⟨ad,rfl,_⟩:=hget 0 _ (List.getElem?_eq_getElem (by omega));obtain⟨g,cap,w',hr,h2,h3,h4,h5⟩:=run_append_lies (P:=Tryz.prog) w 77 77 base 82 j0 _ 3 24 Tryz.underlying77 hj0 hy0 hy1 hy2 rfl (by decide) q.v xs.length _ h.row ad ys.length xc (ys.flatMap encI) hfl (fun j u hj=>by
   obtain⟨WQ,e1,e2⟩:=hget j u hj;obtain rfl:ad=WQ:=by simpa using e1
   exact e2) (Uy ys) hp (by unfold maxLen;omega) (by omega) hb _ rfl
  refine⟨⟨some ⟨g,0,none⟩,xs.length+ys.length,cap⟩,w',hr,⟨by simp,by simpa using h2⟩,(Fr.refl _ w).grown h3 (fun k hk=> .inl hk),fun b hb'=>?_⟩
  obtain rfl:g=b:=Option.some.inj hb';exact h4.imp id (fun e=>by omega)
def wF (k:Int) (x:In):In:=if x.op=15\/x.op=16 then{x with a:=x.a+k} else x
def jR (k:Int) (l:List In):List In:=l.map (wF k)
def JOk (x:In):Prop:=(x.op=15\/x.op=16)->0<=x.a/\x.a<=1000000
theorem gM.lit (w:World) {base:Nat} (hb:base<=w.heap.size):gM base ⟨some ⟨w.heap.size,0,none⟩,0,0⟩ [] (w.alloc (.cells #[] 82)):=
 ⟨rfl,World.ownsRow_lit (e:=82) w #[] 0 (size:=3) (base:=base) hb (by unfold maxLen;omega) rfl⟩
theorem Dx (w:World) (x:In):Sl encI 3 (w.alloc (.cells #[.int .i64 x.op,.int .i64 x.a,.int .i64 x.b] 82)) (ai.v ⟨some ⟨w.heap.size,0,none⟩,1,1⟩) [x]:=by
 refine⟨some ⟨w.heap.size,0,none⟩,1,rfl,by unfold maxLen;simp,fun i y hi=>?_⟩
 cases i with
 |zero=>
  simp at hi
  subst hi;refine⟨_,_,rfl,by simp,fun j u hu=>?_⟩
  have:=World.news_of_block (cs:=#[.int .i64 x.op,.int .i64 x.a,.int .i64 x.b]) (t:=82) (fr:=(0,0)) (bW w _) j u hu;rw[add_eq] at this;simpa using this
 |succ i=>simp at hi
theorem J7 (k:Int) (l:List In) (x:In):jR k (l++ [x])=jR k l++ [wF k x]:=by simp[jR]
theorem Q8 (qa qb:ai) (la lb:List In) (w:World) (ha:Sl encI 3 w qa.v la) (hb:Sl encI 3 w qb.v lb) (hl:la.length+lb.length<=1000000) (hJ:∀x∈lb,JOk x):
 Calls Tryz.prog 72 #[.slice qa.a qa.n qa.c,.slice qb.a qb.n qb.c] w fun e w'=>∃q:ai,e=.returned (.slice q.a q.n q.c)/\gM w.heap.size q (la++jR la.length lb) w'/\Fr nothing w w':=by
 obtain⟨hna,hma⟩:=ay ha;obtain⟨hnb,hmb⟩:=ay hb;obtain⟨aa,an,ac⟩:=qa;obtain⟨ba,bn,bc⟩:=qb;simp only at hna hnb;subst hna;subst hnb;have hF1:Fr nothing w (w.alloc (.cells #[] 82)):=(Fr.refl _ _).alloc _;obtain⟨q1,w2,hrun,Yn,hF2,NZ⟩:=(gM.lit w (Nat.le_refl _)).app (x:=⟨aa,la.length,ac⟩) (ha.fr hF1 (fun _ _=>id)) hF1.size (by simp;omega)
 simp only[List.nil_append] at Yn;have aaW:Fr nothing w w2:=hF1.then hF2 (fun k hk e=>by have:w.heap.size=k:=Option.some.inj e;omega)
 have HB:=hide hb;have HO:=hide Yn;have HF:=hide aaW;have HJ:=hide hJ;have hbl:lb.length<=9223372036854775807:=by omega
 have hal:la.length<=9223372036854775807:=by omega
 clear hF1 Yn hF2 NZ aaW ha hb hJ
 go_enter Tryz.func72,Tryz.ntmps72
 go_wp2_with (at_builtin;go_must (refine aD rfl _ _ 77 rfl _ _ rfl rfl hrun ?_))
 clear hrun
 go_loopw [13,5,7] (fun i v _ wr=>∃(j:Nat) (q:ai),j<=lb.length/\i=.int .i64 j/\v=.slice q.a q.n q.c/\Hid (gM w.heap.size q (la++jR la.length (lb.take j)) wr/\Fr nothing w wr)) (fun i _ _ _=>lb.length-(intOf i).toNat)
 case atStart=>exact⟨0,q1,Nat.zero_le _,rfl,rfl,by simpa[jR] using HO.out,HF.out⟩
 case round=>
  obtain⟨j,q,hj,rfl,rfl,hR⟩:=hrel
  by_cases hjl:j<lb.length
  ·have hx:lb[j]?=some lb[j]:=List.getElem?_eq_getElem hjl;have hxm:lb[j]∈lb:=List.getElem_mem hjl;have htk:lb.take (j+1)=lb.take j++ [lb[j]]:=(List.take_append_getElem hjl).symm;generalize lb[j]=x at hx hxm htk;obtain⟨g,o,hg,dg,p0,p1,p2⟩:=iB (s:=⟨ba,lb.length,bc⟩) HB.out hx;simp only at hg;subst hg;obtain⟨hO,hF⟩:=hR.out;rw[<-hF.cell (p:=⟨g,_,none⟩) dg id] at p0 p1 p2;have eg:g<wr.heap.size:=Nat.lt_of_lt_of_le dg hF.size;have qL:Fr nothing wr (wr.alloc (.cells #[.int .i64 (wF la.length x).op,.int .i64 (wF la.length x).a,.int .i64 (wF la.length x).b] 82)):=(Fr.refl _ _).alloc _;have sA:(wr.alloc (.cells #[.int .i64 (wF la.length x).op,.int .i64 (wF la.length x).a,.int .i64 (wF la.length x).b] 82)).heap.size=wr.heap.size+1:=by simp
   have Zk:=Dx (wr.alloc (.cells #[.int .i64 (wF la.length x).op,.int .i64 (wF la.length x).a,.int .i64 (wF la.length x).b] 82)) (wF la.length x);rw[sA] at Zk;have jf:Fr nothing wr ((wr.alloc (.cells #[.int .i64 (wF la.length x).op,.int .i64 (wF la.length x).a,.int .i64 (wF la.length x).b] 82)).alloc (.cells #[.int .i64 (wF la.length x).op,.int .i64 (wF la.length x).a,.int .i64 (wF la.length x).b] 82)):=qL.alloc _;have hlen:(la++jR la.length (lb.take j)).length<=la.length+j:=by simp[jR];omega
   obtain⟨q2,w5,hrun,Uz,jd,Yo⟩:=(hO.fr jf (fun _ _=>id)).app (x:=⟨some ⟨wr.heap.size+1,0,none⟩,1,1⟩) Zk (Nat.le_trans hF.size jf.size) (by simp only[List.length_singleton];omega);have HN:=hide (show gM w.heap.size q2 (la++jR la.length (lb.take (j+1))) w5 by rw[htk,J7,<-List.append_assoc];exact Uz)
   have ni:=hide ((hF.trans jf).then jd (fun k hk e=>by have:=(hO.lt e).1;omega));have hjk:=HJ.out x hxm;clear hR hO hF qL sA Zk jf Uz jd Yo hx htk
   by_cases hop:x.op=15\/x.op=16
   ·have es:wF la.length x=⟨x.op,x.a+la.length,x.b⟩:=by unfold wF;rw[if_pos hop]
    have hb2:=hjk hop;rw[es] at hrun;simp only at hrun;clear es hjk;have i1:-9223372036854775808<=x.a+(la.length:Nat):=by omega
    have i2:x.a+(la.length:Nat)<=9223372036854775807:=by omega
    rcases hop with hop|hop
    ·rw[hop] at p0 hrun
     go_wp2_with (at_builtin;go_must (refine aD rfl _ _ 77 rfl _ _ rfl rfl hrun ?_))
     go_roundw
     case rel=>exact⟨j+1,q2,by omega,by go_num,rfl,HN.out,ni.out⟩
     case measure=>simp[intOf];omega
    ·rw[hop] at p0 hrun
     go_wp2_with (at_builtin;go_must (refine aD rfl _ _ 77 rfl _ _ rfl rfl hrun ?_))
     go_roundw
     case rel=>exact⟨j+1,q2,by omega,by go_num,rfl,HN.out,ni.out⟩
     case measure=>simp[intOf];omega
   ·have es:wF la.length x=x:=by unfold wF;rw[if_neg hop]
    rw[es] at hrun;clear es hjk;have n15:(x.op==15)=false:=by simp;omega
    have n16:(x.op==16)=false:=by simp;omega
    go_wp2_with (at_builtin;go_must (refine aD rfl _ _ 77 rfl _ _ rfl rfl hrun ?_))
    go_roundw
    case rel=>exact⟨j+1,q2,by omega,by go_num,rfl,HN.out,ni.out⟩
    case measure=>simp[intOf];omega
  ·have vX:j=lb.length:=by omega
   obtain⟨hO,hF⟩:=hR.out;rw[vX,List.take_length] at hO;have Zh:=hide hO;have bq:=hide hF;clear hR hO hF vX
   go_wp2
   go_ret
   exact⟨q,rfl,Zh.out,bq.out⟩
end
section
def II (b:Nat) (f:Int->Option Int) (n:Nat) (w:World):Prop:=
 ∃D:DataW Unit,w.ownsMap Tryz.prog 3 (plainElem Tryz.prog 3) b n D/\(∀k,D.atKey (.int .i64 k) (.lit (.int .i64 0))=.lit (.int .i64 ((f k).getD 0)))
theorem II.lt {b n:Nat} {f:Int->Option Int} {w:World} (h:II b f n w):b<w.heap.size:=by
 obtain⟨D,h1,_⟩:=h;exact World.ownsMap.lt h1
theorem II.made (w:World):II w.heap.size (fun _=>none) 0 (w.alloc (.map #[] 0)):=⟨.map [],World.ownsMap_made w Tryz.prog 3 _,fun _=>rfl⟩
theorem II.look {b n:Nat} {f:Int->Option Int} {w:World} (h:II b f n w) (k:Int) (h0:-9223372036854775808<=k) (h1:k<=9223372036854775807):(Instr.lookup 105 (.map (some b)) (.int .i64 k) false).run Tryz.prog w=.ok (.int .i64 ((f k).getD 0)) w:=by
 obtain⟨D,g1,g2⟩:=h;obtain⟨c,hrun,hat,_⟩:=g1.lookup_int jO Tryz.underlying105 Tryz.underlying3 (Eb w) (lG k h0 h1);rw[g2] at hat;simp only[DataW.lit.injEq,Lit.int.injEq,true_and] at hat;rw[hrun,hat]
theorem II.store {b n:Nat} {f:Int->Option Int} {w:World} (h:II b f n w) (k v:Int) (hn:n<=100000) (h0:-9223372036854775808<=k) (h1:k<=9223372036854775807) (h2:-9223372036854775808<=v) (h3:v<=9223372036854775807):
 ∃w',(Instr.mapUpdate 105 (.map (some b)) (.int .i64 k) (.int .i64 v)).run Tryz.prog w=.ok () w'/\II b (fun x=>if x=k then some v else f x) (n+1) w'/\Fr (fun j=>j=b) w w':=by
 obtain⟨D,g1,g2⟩:=h;have hw:(Lit.int .i64 v).wf=true:=by simp[Lit.wf,IntKind.min,IntKind.max,IntKind.signed,IntKind.bits];omega
 obtain⟨w',hrun,ho,hg⟩:=g1.update jO Tryz.underlying105 (by unfold maxLen;omega) (lG k h0 h1) (plainElem_int Tryz.underlying3 hw);have hmap:=zI g1;have hkey:WideAt.IsKeyLit (.int .i64 k):=by trivial
 refine⟨w',hrun,⟨D.put (.int .i64 k) (.lit (.int .i64 v)),?_,fun x=>?_⟩,(Fr.refl _ w).grown hg (fun j hj=> .inl (by simpa using hj.symm))⟩
 ·exact ho
 ·by_cases hx:x=k
  ·subst hx;rw[Maps.atKey_put_same hmap hkey];simp
  ·rw[Maps.atKey_put_other (by intro e;exact hx (by cases e;rfl)),g2];simp[hx]
def J8:Int->Option Int:=fun x=>if x=10 then some 13 else if x=9 then some 12 else if x=8 then some 11 else if x=7 then some 8 else if x=6 then some 7 else if x=5 then some 6 else none
theorem UA (w:World):∃m1 m2 m3 m4 m5 m6:World,
 (Instr.mapUpdate 105 (.map (some w.heap.size)) (.int .i64 5) (.int .i64 6)).run Tryz.prog (w.alloc (.map #[] 0))=.ok () m1/\
 (Instr.mapUpdate 105 (.map (some w.heap.size)) (.int .i64 6) (.int .i64 7)).run Tryz.prog m1=.ok () m2/\
 (Instr.mapUpdate 105 (.map (some w.heap.size)) (.int .i64 7) (.int .i64 8)).run Tryz.prog m2=.ok () m3/\
 (Instr.mapUpdate 105 (.map (some w.heap.size)) (.int .i64 8) (.int .i64 11)).run Tryz.prog m3=.ok () m4/\
 (Instr.mapUpdate 105 (.map (some w.heap.size)) (.int .i64 9) (.int .i64 12)).run Tryz.prog m4=.ok () m5/\
 (Instr.mapUpdate 105 (.map (some w.heap.size)) (.int .i64 10) (.int .i64 13)).run Tryz.prog m5=.ok () m6/\
 (∀k:Int,-9223372036854775808<=k->k<=9223372036854775807->(Instr.lookup 105 (.map (some w.heap.size)) (.int .i64 k) false).run Tryz.prog m6=.ok (.int .i64 ((J8 k).getD 0)) m6)/\Fr nothing w m6/\w.heap.size<m6.heap.size:=by
 have h0:=II.made w;have F0:Fr (fun j=>j=w.heap.size) (w.alloc (.map #[] 0)) (w.alloc (.map #[] 0)):=Fr.refl _ _;obtain⟨m1,r1,h1,g1⟩:=h0.store 5 6 (by decide) (by decide) (by decide) (by decide) (by decide);obtain⟨m2,r2,h2,g2⟩:=h1.store 6 7 (by decide) (by decide) (by decide) (by decide) (by decide);obtain⟨m3,r3,h3,g3⟩:=h2.store 7 8 (by decide) (by decide) (by decide) (by decide) (by decide);obtain⟨m4,r4,h4,g4⟩:=h3.store 8 11 (by decide) (by decide) (by decide) (by decide) (by decide);obtain⟨m5,r5,h5,g5⟩:=h4.store 9 12 (by decide) (by decide) (by decide) (by decide) (by decide);obtain⟨m6,r6,h6,g6⟩:=h5.store 10 13 (by decide) (by decide) (by decide) (by decide) (by decide);exact⟨m1,m2,m3,m4,m5,m6,r1,r2,r3,r4,r5,r6,fun k a b=>h6.look k a b,((Fr.refl nothing w).alloc _).then (((((F0.trans g1).trans g2).trans g3).trans g4).trans g5|>.trans g6) (fun j hj e=>by omega),h6.lt⟩
def Yp:Int->Option Int:=fun x=>if x=9 then some 19 else if x=8 then some 10 else if x=7 then some 9 else if x=6 then some 18 else if x=5 then some 14 else none
theorem UB (w:World):∃m1 m2 m3 m4 m5:World,
 (Instr.mapUpdate 105 (.map (some w.heap.size)) (.int .i64 5) (.int .i64 14)).run Tryz.prog (w.alloc (.map #[] 0))=.ok () m1/\
 (Instr.mapUpdate 105 (.map (some w.heap.size)) (.int .i64 6) (.int .i64 18)).run Tryz.prog m1=.ok () m2/\
 (Instr.mapUpdate 105 (.map (some w.heap.size)) (.int .i64 7) (.int .i64 9)).run Tryz.prog m2=.ok () m3/\
 (Instr.mapUpdate 105 (.map (some w.heap.size)) (.int .i64 8) (.int .i64 10)).run Tryz.prog m3=.ok () m4/\
 (Instr.mapUpdate 105 (.map (some w.heap.size)) (.int .i64 9) (.int .i64 19)).run Tryz.prog m4=.ok () m5/\
 (∀k:Int,-9223372036854775808<=k->k<=9223372036854775807->(Instr.lookup 105 (.map (some w.heap.size)) (.int .i64 k) false).run Tryz.prog m5=.ok (.int .i64 ((Yp k).getD 0)) m5)/\Fr nothing w m5/\w.heap.size<m5.heap.size:=by
 have h0:=II.made w;have F0:Fr (fun j=>j=w.heap.size) (w.alloc (.map #[] 0)) (w.alloc (.map #[] 0)):=Fr.refl _ _;obtain⟨m1,r1,h1,g1⟩:=h0.store 5 14 (by decide) (by decide) (by decide) (by decide) (by decide);obtain⟨m2,r2,h2,g2⟩:=h1.store 6 18 (by decide) (by decide) (by decide) (by decide) (by decide);obtain⟨m3,r3,h3,g3⟩:=h2.store 7 9 (by decide) (by decide) (by decide) (by decide) (by decide);obtain⟨m4,r4,h4,g4⟩:=h3.store 8 10 (by decide) (by decide) (by decide) (by decide) (by decide);obtain⟨m5,r5,h5,g5⟩:=h4.store 9 19 (by decide) (by decide) (by decide) (by decide) (by decide);exact⟨m1,m2,m3,m4,m5,r1,r2,r3,r4,r5,fun k a b=>h5.look k a b,((Fr.refl nothing w).alloc _).then ((((F0.trans g1).trans g2).trans g3).trans g4|>.trans g5) (fun j hj e=>by omega),h5.lt⟩
theorem UC (k:Int) (h1:k≠1) (h2:k≠2) (h3:k≠3) (h4:k≠4):(Yp k).getD 0=stOp k:=by
 unfold Yp stOp
 by_cases e5:k=5
 ·subst e5;rfl
 by_cases e6:k=6
 ·subst e6;rfl
 by_cases e7:k=7
 ·subst e7;rfl
 by_cases e8:k=8
 ·subst e8;rfl
 by_cases e9:k=9
 ·subst e9;rfl
 simp[e5,e6,e7,e8,e9]
theorem UD (G E:Bs->Int) (k n:Int) (t:Bs) (len:Nat) (ws:List Bs) (h1:k≠1) (h2:k≠2) (h3:k≠3) (h4:k≠4) (h11:k≠11):qm G E k n t len ws=⟨(J8 k).getD 0,0,0⟩:=by
 unfold qm J8 rW;rw[if_neg h1,if_neg h2,if_neg h3,if_neg h4,if_neg h11]
 by_cases e9:k=9
 ·subst e9;rfl
 rw[if_neg e9]
 by_cases e5:k=5
 ·subst e5;rfl
 by_cases e6:k=6
 ·subst e6;rfl
 by_cases e7:k=7
 ·subst e7;rfl
 by_cases e8:k=8
 ·subst e8;rfl
 by_cases e10:k=10
 ·subst e10;rfl
 simp[e5,e6,e7,e8,e9,e10]
structure Rk where
 mb:Nat
 base:Nat
 fs:ai
 rs:List qH
structure RI (c:Rk) (T:Nat->Prop) (v:Nat) (ws:List Bs) (w:World):Prop where
 c0:w.cell? ⟨c.mb,0,none⟩=some c.fs.v
 c2:w.cell? ⟨c.mb,2,none⟩=some (.int .i64 (v:Nat))
 fz:∀j,w.frozen? ⟨c.mb,j,none⟩=false
 ml:c.mb<w.heap.size
 fn:Sl ug 3 w c.fs.v c.rs
 row:∃sw:ai,w.cell? ⟨c.mb,1,none⟩=some sw.v/\w.ownsRow c.base 9 1 sw.v ws.length (ws.flatMap jP)/\(∀b,sw.v.ownBlock=some b->T b/\b≠c.mb)
 bl:c.base<=w.heap.size
 tm:T c.mb
 tf:∀b,c.fs.v.ownBlock=some b->¬T b
 fl:∀b,c.fs.v.ownBlock=some b->b<w.heap.size
 tl:∀k,T k->k<w.heap.size
theorem RI.fr {c:Rk} {T S:Nat->Prop} {v:Nat} {ws:List Bs} {w w':World} (h:RI c T v ws w) (hf:Fr S w w') (hT:∀k,T k->¬S k) (hS:∀b,c.fs.v.ownBlock=some b->¬S b):RI c T v ws w':=by
 obtain⟨sw,r1,r2,r3⟩:=h.row;have cm:∀j,w'.cell? ⟨c.mb,j,none⟩=w.cell? ⟨c.mb,j,none⟩:=fun j=>hf.cell (p:=⟨c.mb,j,none⟩) h.ml (hT _ h.tm)
 exact⟨(cm 0).trans h.c0,(cm 2).trans h.c2,fun j=>(hf.frozen (p:=⟨c.mb,j,none⟩) h.ml (hT _ h.tm)).trans (h.fz j),Nat.lt_of_lt_of_le h.ml hf.size,h.fn.keep hf (P:=fun k=>c.fs.v.ownBlock=some k) (fun _ hb=>hb) hS,⟨sw,(cm 1).trans r1,aI r2 hf (fun k hk=>hT k (r3 k hk).1),r3⟩,Nat.le_trans h.bl hf.size,h.tm,h.tf,fun b hb=>Nat.lt_of_lt_of_le (h.fl b hb) hf.size,fun k hk=>Nat.lt_of_lt_of_le (h.tl k hk) hf.size⟩
theorem RI.new {c:Rk} {T:Nat->Prop} {v:Nat} {ws:List Bs} {w w':World} (h:RI c T v ws w) (hf:Fr nothing w w'):RI c T v ws w':=h.fr hf (fun _ _=>id) (fun _ _=>id)
def RP (c:Rk) (T:Nat->Prop) (w:World) (v:Nat) (ws:List Bs) (T':Nat->Prop) (w':World):Prop:=RI c T' v ws w'/\Fr T w w'/\∀k,T' k->T k\/w.heap.size<=k
theorem RP.J9 {c:Rk} {T:Nat->Prop} {v:Nat} {ws:List Bs} {w w':World} (h:RI c T v ws w) (hf:Fr nothing w w'):RP c T w v ws T w':=⟨h.new hf,hf.mono (fun _ _ e=>e.elim),fun _ hk=> .inl hk⟩
theorem RP.after {c:Rk} {T T1 T2:Nat->Prop} {v:Nat} {ws:List Bs} {w w1 w2:World} (h:RP c T1 w1 v ws T2 w2) (hf:Fr T w w1) (hT:∀k,T1 k->T k\/w.heap.size<=k):RP c T w v ws T2 w2:=by
 obtain⟨k1,k2,k3⟩:=h;refine⟨k1,hf.then k2 (fun k hk e=>(hT k e).elim id (fun h=>by omega)),fun k hk=>?_⟩
 rcases k3 k hk with h|h
 ·exact hT k h
 ·exact .inr (Nat.le_trans hf.size h)
theorem RI.vars {c:Rk} {T:Nat->Prop} {v:Nat} {ws:List Bs} {w:World} (h:RI c T v ws w) (u:Nat):RI c T u ws (w.setCell ⟨c.mb,2,none⟩ (.int .i64 (u:Nat)))/\Fr (fun k=>k=c.mb) w (w.setCell ⟨c.mb,2,none⟩ (.int .i64 (u:Nat))):=by
 obtain⟨e1,e2,hf⟩:=kW w c.mb 2 (.int .i64 (u:Nat)) h.c2;obtain⟨sw,r1,r2,r3⟩:=h.row;refine⟨⟨(e2 0 (by decide)).trans h.c0,e1,fun j=>by rw[World.frozen?_setCell];exact h.fz j,Nat.lt_of_lt_of_le h.ml hf.size,h.fn.keep hf (P:=fun k=>c.fs.v.ownBlock=some k) (fun _ hb=>hb) (fun k hk e=>h.tf k hk (e▸h.tm)),⟨sw,(e2 1 (by decide)).trans r1,aI r2 hf (fun k hk=>(r3 k hk).2),r3⟩,Nat.le_trans h.bl hf.size,h.tm,h.tf,fun b hb=>Nat.lt_of_lt_of_le (h.fl b hb) hf.size,fun k hk=>Nat.lt_of_lt_of_le (h.tl k hk) hf.size⟩,hf⟩
theorem RI.word {c:Rk} {T:Nat->Prop} {v:Nat} {ws:List Bs} {w w2:World} (h:RI c T v ws w) {t:Bs} {sw:ai} (h1:w.cell? ⟨c.mb,1,none⟩=some sw.v) {g cap:Nat} (hr:w2.ownsRow c.base 9 1 (.slice (some ⟨g,0,none⟩) (ws.length+1) cap) (ws.length+1) (ws.flatMap jP++jP t)) (hf:Fr (fun k=>sw.v.ownBlock=some k) w w2) (hg:sw.v.ownBlock=some g\/w.heap.size<=g):
 RP c T w v (ws++ [t]) (fun k=>T k\/k=g) (w2.setCell ⟨c.mb,1,none⟩ (.slice (some ⟨g,0,none⟩) (ws.length+1) cap)):=by
 obtain⟨bG,r1,r2,r3⟩:=h.row;have e:bG.v=sw.v:=by rw[r1] at h1;exact Option.some.inj h1
 rw[e] at r2 r3;have nm:¬sw.v.ownBlock=some c.mb:=fun e=>(r3 _ e).2 rfl;have hgm:g≠c.mb:=by
  rcases hg with e|e
  ·exact(r3 g e).2
  ·have:=h.ml;omega
 have cm:∀j,w2.cell? ⟨c.mb,j,none⟩=w.cell? ⟨c.mb,j,none⟩:=fun j=>hf.cell (p:=⟨c.mb,j,none⟩) h.ml nm
 obtain⟨e1,e2,hf2⟩:=kW w2 c.mb 1 (.slice (some ⟨g,0,none⟩) (ws.length+1) cap) ((cm 1).trans h1);have hF:Fr (fun k=>sw.v.ownBlock=some k\/k=c.mb) w (w2.setCell ⟨c.mb,1,none⟩ (.slice (some ⟨g,0,none⟩) (ws.length+1) cap)):=(hf.mono (fun _ _ e=> .inl e)).trans (hf2.mono (fun _ _ e=> .inr e));have hgl:g<w2.heap.size:=(hr.lt g rfl).2;have nf:∀b,c.fs.v.ownBlock=some b->¬(sw.v.ownBlock=some b\/b=c.mb):=by
  rintro b hb (e|e)
  ·exact h.tf b hb (r3 b e).1
  ·exact h.tf b hb (e▸h.tm)
 refine⟨⟨(e2 0 (by decide)).trans ((cm 0).trans h.c0),(e2 2 (by decide)).trans ((cm 2).trans h.c2),fun j=>?_,Nat.lt_of_lt_of_le h.ml hF.size,h.fn.keep hF (P:=fun k=>c.fs.v.ownBlock=some k) (fun _ hb=>hb) nf,⟨⟨some ⟨g,0,none⟩,ws.length+1,cap⟩,e1,?_,?_⟩,Nat.le_trans h.bl hF.size,.inl h.tm,?_,fun b hb=>Nat.lt_of_lt_of_le (h.fl b hb) hF.size,?_⟩,?_,?_⟩
 ·rw[World.frozen?_setCell,hf.frozen (p:=⟨c.mb,j,none⟩) h.ml nm];exact h.fz j
 ·have:=aI hr hf2 (fun k hk e=>by cases hk;exact hgm e);simpa using this
 ·intro b hb;obtain rfl:g=b:=Option.some.inj hb;exact⟨.inr rfl,hgm⟩
 ·rintro b hb (e|e)
  ·exact h.tf b hb e
  ·subst e;rcases hg with e|e
   ·exact h.tf b hb (r3 b e).1
   ·have:=h.fl b hb;omega
 ·rintro k (e|e)
  ·exact Nat.lt_of_lt_of_le (h.tl k e) hF.size
  ·subst e;exact Nat.lt_of_lt_of_le hgl hf2.size
 ·exact hF.mono (fun k _ e=>by rcases e with e|e;exact(r3 k e).1;exact e▸h.tm)
 ·rintro k (e|e)
  ·exact .inl e
  ·subst e;rcases hg with e|e
   ·exact .inl (r3 k e).1
   ·exact .inr e
end
section
def NF (l:List In):Prop:=∀x∈l,x.op≠15/\x.op≠16
theorem NF.app {a b:List In} (ha:NF a) (hb:NF b):NF (a++b):=fun x hx=>by
 rcases List.mem_append.1 hx with h|h
 ·exact ha x h
 ·exact hb x h
theorem Ka (k:Int):rW k≠15/\rW k≠16:=by
 unfold rW
 repeat' split
 all_goals decide
theorem UE (k:Int):stOp k≠15/\stOp k≠16:=by
 unfold stOp
 repeat' split
 all_goals decide
theorem Q9 (G E:Bs->Int) (k n:Int) (t:Bs) (len:Nat) (ws:List Bs):(qm G E k n t len ws).op≠15/\(qm G E k n t len ws).op≠16:=by
 unfold qm
 repeat' split
 all_goals first|exact Ka k|(constructor<;>simp)
mutual
theorem Yq (G E:Bs->Int):∀(x:Ex) (ws:List Bs),NF (Ad G E x ws).ins
 |.mk k n t a,ws=>by
  rw[CV];refine NF.app (Dy G E a ws) (fun x hx=>?_)
  rw[List.mem_singleton.1 hx];exact Q9 ..
theorem Dy (G E:Bs->Int):∀(l:List Ex) (ws:List Bs),NF (aM G E l ws).ins
 |[],ws=>by rw[og];intro x hx;cases hx
 |x::l,ws=>by rw[jX];exact NF.app (Yq G E x ws) (Dy G E l _)
end
theorem Yr {k:Int} {x:In} (h:x.op≠15/\x.op≠16):wF k x=x:=by
 unfold wF;rw[if_neg (by rintro(e|e);exact h.1 e;exact h.2 e)]
theorem Cg {k:Int}:∀{l:List In},NF l->jR k l=l
 |[],_=>rfl
 |x::l,h=>by
  have:=Cg (k:=k) (l:=l) (fun y hy=>h y (List.mem_cons_of_mem _ hy));unfold jR at this⊢;rw[List.map_cons,this,Yr (h x List.mem_cons_self)]
structure KSh (r s:KR) (k:Nat):Prop where
 i:s.ins=jR (k:Nat) r.ins
 E:s.E=r.E
 v:s.v=r.v
 w:s.ws=r.ws
def JIn (o n:Nat) (l:List In):Prop:=∀x∈l,(x.op=15\/x.op=16)->0<=x.a/\x.a<=(o+n:Nat)
theorem Ch (G:Bs->Int) (s:St):∀(l:List St) (E:Bs->Int) (v:Nat) (ws:List Bs) (o:Nat) (r q:KR),dY G l E v ws o=r->nA G s r.E r.v r.ws (o+r.ins.length)=q->dY G (l++ [s]) E v ws o=⟨r.ins++q.ins,q.E,q.v,q.ws⟩
 |[],E,v,ws,o,r,q,h,h2=>by
  rw[xC] at h;subst h;simp only[List.length_nil,Nat.add_zero] at h2;rw[List.nil_append,pM h2 rfl,xC];simp
 |u::l,E,v,ws,o,r,q,h,h2=>by
  rw[pM rfl rfl] at h;subst h;have:=Ch G s l (nA G u E v ws o).E (nA G u E v ws o).v (nA G u E v ws o).ws (o+(nA G u E v ws o).ins.length) _ q rfl (by
   rw[<-h2]
   congr 1
   simp only[List.length_append];omega)
  rw[List.cons_append,pM rfl this];simp
end
end Go.Proofs.YtbcadjgpcfmkfaaGreatDoor
