/- CCanonT; Rep0. -/
import Derived.Test.YtbcadjgpcfmkfaaGreatDoorPartU3
import Derived.Test.YtbcadjgpcfmkfaaGreatDoorPartU1
import Derived.Test.YtbcadjgpcfmkfaaGreatDoorPartU2
set_option maxHeartbeats 0
set_option maxRecDepth 100000
set_option linter.unusedSimpArgs false
namespace Go.Proofs.YtbcadjgpcfmkfaaGreatDoor
open Go Go.RowKit
section
open Go.pG
namespace Cl
def Tn (w:World) (h:List aV) (hv:Value) (l:List Val) (k:Nat) (wr:World):Prop:=
 wr.ownsRow (w.heap.size+4) 53 3 (.slice (some ⟨w.heap.size+4,0,none⟩) k l.length) k (((l.take k).map (ren h.length (dm h (l.take k)))).flatMap aP)/\
  ∃cw,CI w h hv (dm h (l.take k)) (mid h (dm h (l.take k)) (dm h (l.take k)).length) cw wr
def Tp (w:World) (h:List aV) (hv:Value) (l:List Val) (k d:Nat) (wr:World):Prop:=
 wr.ownsRow (w.heap.size+4) 53 3 (.slice (some ⟨w.heap.size+4,0,none⟩) (k+1) l.length) (k+1) (((l.take (k+1)).map (ren h.length (dm h (l.take (k+1))))).flatMap aP)/\
  ∃o cw,Ok h.length o/\d<=o.length/\vJ h o d/\close h (h.length-d) o d=dm h (l.take (k+1))/\CI w h hv o (mid h o d) cw wr
theorem Bn {w wr w2:World} {h:List aV} {hv:Value} {o:List Nat} {cs:List aV} {cw:Value} {O:Obj} {k c:Nat} {xs:List Value} (hr:wr.ownsRow (w.heap.size+4) 53 3 (.slice (some ⟨w.heap.size+4,0,none⟩) k c) k xs) (hI:CI w h hv o cs cw wr)
 (hF:Fr (nu w cw) (wr.alloc O) w2):w2.ownsRow (w.heap.size+4) 53 3 (.slice (some ⟨w.heap.size+4,0,none⟩) k c) k xs:=by
 refine aI (hr.alloc O) hF (fun j hj=>?_)
 have hj':w.heap.size+4=j:=by simpa[Value.ownBlock] using hj
 rintro(hx|hx|hx)
 ·omega
 ·omega
 ·have:=(hI.row.lt j hx).1;omega
theorem CI.shape {w0:World} {h:List aV} {hv:Value} {o:List Nat} {cs:List aV} {cw:Value} {w:World} (hI:CI w0 h hv o cs cw w):∃ca cc,cw=.slice ca cs.length cc:=by
 rcases hI.row.2 with⟨rfl,h0⟩|⟨g,c,_,rfl,_⟩
 ·exact⟨none,0,by rw[h0]⟩
 ·exact⟨_,_,rfl⟩
theorem LZ {wr:World} {h:List aV} {l:List Val} {base e:Nat} {v:Value} (hr:wr.ownsRow base e 3 v l.length (((l.take l.length).map (ren h.length (dm h (l.take l.length)))).flatMap aP)):Sl aP 3 wr.drew v (mO h l):=by
 rw[List.take_length] at hr;have:wr.ownsRow base e 3 v (mO h l).length ((mO h l).flatMap aP):=by simpa[mO] using hr
 exact eX Ea (w:=wr.drew) this
theorem Gz {w wr:World} {h:List aV} {hv:Value} {l:List Val} {cw:Value} (hI:CI w h hv (dm h (l.take l.length)) (mid h (dm h (l.take l.length)) (dm h (l.take l.length)).length) cw wr):Sl bZ 6 wr.drew cw (CE h l):=by
 have hr:=hI.row;rw[List.take_length,SN] at hr;exact eX jH (w:=wr.drew) hr
theorem GG {w w2 w3 wr:World} {h:List aV} {hv:Value} {l:List Val} {k:Nat} {cw cw2:Value} {O:Obj} (hk:k<l.length) (hd:Done h (dm h (l.take k)))
 (_hI:CI w h hv (dm h (l.take k)) (mid h (dm h (l.take k)) (dm h (l.take k)).length) cw wr)
 (hI2:CI w h hv (meet h.length (dm h (l.take k)) l[k]) (mid h (dm h (l.take k)) (dm h (l.take k)).length++((meet h.length (dm h (l.take k)) l[k]).drop (dm h (l.take k)).length).map (cellAt h)) cw2 w2)
 (hown:w3.ownsRow (w.heap.size+4) 53 3 (.slice (some ⟨w.heap.size+4,0,none⟩) (k+1) l.length) (k+1) (((l.take k).map (ren h.length (dm h (l.take k)))).flatMap aP++aP (ren h.length (meet h.length (dm h (l.take k)) l[k]) l[k])))
 (hg:(w2.alloc O).grownBy w3 (some (w.heap.size+4))):Tp w h hv l k (dm h (l.take k)).length w3:=by
 have hp:=iA h.length (dm h (l.take k)) l[k];rw[wW hd.2 (Nat.le_refl _) hp] at hI2;refine⟨?_,meet h.length (dm h (l.take k)) l[k],cw2,mP hd.1 _,hp.length_le,?_,?_,?_⟩
 ·rw[LW hk];simpa using hown
 ·intro j i hj hi;have h2:(dm h (l.take k))[j]?=some (dm h (l.take k))[j]:=List.getElem?_eq_getElem hj;rw[fP hp h2] at hi;obtain rfl:=Option.some.inj hi;exact(hd.2 j _ hj h2).mono hp
 ·rw[nW h l k hk];rfl
 ·refine hI2.fr (S:=fun j=>j=w.heap.size+4) (((Fr.refl _ w2).alloc O).grown hg (fun j hj=>by left;simpa using hj.symm)) (fun j hj e=>by omega) (fun j hj e=>?_)
  have:=(hI2.row.lt j hj).1;omega
theorem Ol {w:World} {h:List aV} {hv:Value} {l:List Val} {k d:Nat} {o:List Nat} {cw:Value} {wr:World} (hp:wr.ownsRow (w.heap.size+4) 53 3 (.slice (some ⟨w.heap.size+4,0,none⟩) (k+1) l.length) (k+1) (((l.take (k+1)).map (ren h.length (dm h (l.take (k+1))))).flatMap aP)/\Ok h.length o/\vJ h o d/\close h (h.length-d) o d=dm h (l.take (k+1))/\CI w h hv o (mid h o d) cw wr)
 (hd:¬d<o.length) (hdo:d<=o.length):Value.int .i64 (d:Int)=.int .i64 ((dm h (l.take (k+1))).length:Nat):=by
 obtain⟨_,_,_,hc,_⟩:=hp;rw[Bi (by omega)] at hc;rw[<-hc,show d=o.length by omega]
theorem Om {w:World} {h:List aV} {hv:Value} {l:List Val} {k d:Nat} {o:List Nat} {cw:Value} {wr:World} (hp:wr.ownsRow (w.heap.size+4) 53 3 (.slice (some ⟨w.heap.size+4,0,none⟩) (k+1) l.length) (k+1) (((l.take (k+1)).map (ren h.length (dm h (l.take (k+1))))).flatMap aP)/\Ok h.length o/\vJ h o d/\close h (h.length-d) o d=dm h (l.take (k+1))/\CI w h hv o (mid h o d) cw wr)
 (hd:¬d<o.length) (hdo:d<=o.length):Hid (Tn w h hv l (k+1) wr):=by
 obtain⟨hr,_,_,hc,hI⟩:=hp;rw[Bi (by omega)] at hc;refine⟨hr,cw,?_⟩
 rw[<-hc];rw[show d=o.length by omega] at hI;exact hI
theorem xw {w:World} {base g n cap:Nat} {cs:List aV} (hr:w.ownsRow base 88 6 (.slice (some ⟨g,0,none⟩) n cap) n (cs.flatMap bZ)) {d:Nat} {x:aV} (hx:cs[d]?=some x) (hn:cs.length=n):∀j u,(bZ x)[j]?=some u->w.cell? ⟨g,d*6+j,none⟩=some u:=by
 intro j u hu;have h1:d<cs.length:=(List.getElem?_eq_some_iff.1 hx).1;have h2:j<6:=by rw[<-jH x];exact(List.getElem?_eq_some_iff.1 hu).1
 rw[hr.cellAt _ (by omega)];exact flat_get bZ 6 jH cs d x j u hx hu
theorem CI.left {w0:World} {h:List aV} {hv:Value} {o:List Nat} {d:Nat} {ca:Option Addr} {cc n:Nat} {w:World} (hI:CI w0 h hv o (mid h o d) (.slice ca n cc) w) (hd:d<o.length):
 ∃g,ca=some ⟨g,0,none⟩/\w.cell? ⟨g,d*6,none⟩=some (.int .i64 (cellAt h o[d]).l.k)/\w.cell? ⟨g,d*6+1,none⟩=some (.int .i64 (cellAt h o[d]).l.n)/\w.cell? ⟨g,d*6+2,none⟩=some (.string (cellAt h o[d]).l.t):=by
 rcases hI.row.2 with⟨_,h0⟩|⟨g,c,cur,he,hr⟩
 ·rw[eY] at h0;omega
 ·obtain⟨rfl,rfl,rfl⟩:ca=some ⟨g,0,none⟩/\n=(mid h o d).length/\cc=c:=by simpa using he
  have:=xw hI.row (Gr h o d hd) rfl;exact⟨g,rfl,this 0 _ rfl,this 1 _ rfl,this 2 _ rfl⟩
theorem CI.right {w0:World} {h:List aV} {hv:Value} {o:List Nat} {d:Nat} {ca:Option Addr} {cc n:Nat} {w:World} (hI:CI w0 h hv o (mid h o d) (.slice ca n cc) w) (hd:d<o.length):
 ∃g,ca=some ⟨g,0,none⟩/\w.cell? ⟨g,d*6+3,none⟩=some (.int .i64 (cellAt h o[d]).r.k)/\w.cell? ⟨g,d*6+3+1,none⟩=some (.int .i64 (cellAt h o[d]).r.n)/\w.cell? ⟨g,d*6+3+2,none⟩=some (.string (cellAt h o[d]).r.t):=by
 rcases hI.row.2 with⟨_,h0⟩|⟨g,c,cur,he,hr⟩
 ·rw[eY] at h0;omega
 ·obtain⟨rfl,rfl,rfl⟩:ca=some ⟨g,0,none⟩/\n=(mid h o d).length/\cc=c:=by simpa using he
  have:=xw hI.row (Gr h o d hd) rfl;exact⟨g,rfl,this 3 _ rfl,this 4 _ rfl,this 5 _ rfl⟩
theorem xy {o o1:List Nat} (hp:o<+:o1) {d:Nat} (hd:d<o.length):o1[d]'(Nat.lt_of_lt_of_le hd hp.length_le)=o[d]:=by
 obtain⟨s,rfl⟩:=hp;exact List.getElem_append_left hd
theorem GH {w wr w2:World} {h:List aV} {hv:Value} {o:List Nat} {cs:List aV} {cw:Value} {k c:Nat} {xs:List Value} (hr:wr.ownsRow (w.heap.size+4) 53 3 (.slice (some ⟨w.heap.size+4,0,none⟩) k c) k xs) (hI:CI w h hv o cs cw wr)
 (hF:Fr (nu w cw) wr w2):w2.ownsRow (w.heap.size+4) 53 3 (.slice (some ⟨w.heap.size+4,0,none⟩) k c) k xs:=by
 refine aI hr hF (fun j hj=>?_)
 have hj':w.heap.size+4=j:=by simpa[Value.ownBlock] using hj
 rintro(hx|hx|hx)
 ·omega
 ·omega
 ·have:=(hI.row.lt j hx).1;omega
theorem L6 {h:List aV} {o o':List Nat} {d:Nat} (hu:vJ h o d) (hd:d<=o.length) (hp:o<+:o'):vJ h o' d:=by
 intro j i hj hi;have h2:o[j]?=some o[j]:=List.getElem?_eq_getElem (Nat.lt_of_lt_of_le hj hd);rw[fP hp h2] at hi;obtain rfl:=Option.some.inj hi;exact(hu j _ hj h2).mono hp
theorem CI.there {w0:World} {h:List aV} {hv:Value} {o:List Nat} {d:Nat} {ca:Option Addr} {cc n:Nat} {w:World} (hI:CI w0 h hv o (mid h o d) (.slice ca n cc) w) (hd:d<o.length):
 ∃g,ca=some ⟨g,0,none⟩/\w.cell? ⟨g,d*6,none⟩=some (.int .i64 (cellAt h o[d]).l.k)/\w.cell? ⟨g,d*6+1,none⟩=some (.int .i64 (cellAt h o[d]).l.n)/\w.cell? ⟨g,d*6+2,none⟩=some (.string (cellAt h o[d]).l.t)/\w.cell? ⟨g,d*6+3,none⟩=some (.int .i64 (cellAt h o[d]).r.k)/\w.cell? ⟨g,d*6+4,none⟩=some (.int .i64 (cellAt h o[d]).r.n)/\w.cell? ⟨g,d*6+5,none⟩=some (.string (cellAt h o[d]).r.t)/\
  w.frozen? ⟨g,d*6,none⟩=false/\w.frozen? ⟨g,d*6+1,none⟩=false/\w.frozen? ⟨g,d*6+2,none⟩=false/\w.frozen? ⟨g,d*6+3,none⟩=false/\w.frozen? ⟨g,d*6+4,none⟩=false/\w.frozen? ⟨g,d*6+5,none⟩=false:=by
 rcases hI.row.2 with⟨_,h0⟩|⟨g,c,cur,he,hr⟩
 ·rw[eY] at h0;omega
 ·obtain⟨rfl,rfl,rfl⟩:ca=some ⟨g,0,none⟩/\n=(mid h o d).length/\cc=c:=by simpa using he
  have:=xw hI.row (Gr h o d hd) rfl;exact⟨g,rfl,this 0 _ rfl,this 1 _ rfl,this 2 _ rfl,this 3 _ rfl,this 4 _ rfl,this 5 _ rfl,hI.row.frozenAt _,hI.row.frozenAt _,hI.row.frozenAt _,hI.row.frozenAt _,hI.row.frozenAt _,hI.row.frozenAt _⟩
theorem L8 {w wr w5:World} {h:List aV} {hv:Value} {l:List Val} {k d:Nat} {o o1 o2:List Nat} {cw:Value} {g5 cc5:Nat} {rl rr:Val} (hd:d<o.length) (_hdo:d<=o.length)
 (hp:wr.ownsRow (w.heap.size+4) 53 3 (.slice (some ⟨w.heap.size+4,0,none⟩) (k+1) l.length) (k+1) (((l.take (k+1)).map (ren h.length (dm h (l.take (k+1))))).flatMap aP)/\Ok h.length o/\vJ h o d/\close h (h.length-d) o d=dm h (l.take (k+1))/\CI w h hv o (mid h o d) cw wr)
 (ho1:o1=meet h.length o (cellAt h o[d]).l) (hrl:rl=ren h.length o1 (cellAt h o[d]).l) (ho2:o2=meet h.length o1 (cellAt h o[d]).r)
 (hr5:w5.ownsRow (w.heap.size+4) 53 3 (.slice (some ⟨w.heap.size+4,0,none⟩) (k+1) l.length) (k+1) (((l.take (k+1)).map (ren h.length (dm h (l.take (k+1))))).flatMap aP))
 (xm:CI w h hv o2 (mid h o2 d) (.slice (some ⟨g5,0,none⟩) (mid h o2 d).length cc5) w5) (hrr:rr=ren h.length o2 (cellAt h o[d]).r) (O:Obj) (w6:World) (e6:w6=(((((((w5.setCell ⟨g5,d*6,none⟩ (.int .i64 rl.k)).setCell ⟨g5,d*6+1,none⟩ (.int .i64 rl.n)).setCell ⟨g5,d*6+2,none⟩ (.string rl.t)).setCell ⟨g5,d*6+3,none⟩ (.int .i64 rr.k)).setCell ⟨g5,d*6+4,none⟩ (.int .i64 rr.n)).setCell ⟨g5,d*6+5,none⟩ (.string rr.t)).alloc O)):
 Hid (Tp w h hv l k (d+1) w6):=by
 obtain⟨_,hok,hup,hcl,_⟩:=hp;have e2:o2=qi h o o[d]:=by rw[ho2,ho1];rfl
 have hpre:o<+:o2:=by rw[e2];exact jV _ _ _
 have hd2:d<o2.length:=Nat.lt_of_lt_of_le hd hpre.length_le;have hod:o2[d]=o[d]:=xy hpre hd;have hrc:wO h o2 o2[d]=⟨rl,rr⟩:=by
  rw[hod,e2,N8,hrl,hrr,ho1,e2]
 have hrow:w6.ownsRow (w.heap.size+5) 88 6 (.slice (some ⟨g5,0,none⟩) (mid h o2 d).length cc5) (mid h o2 d).length (((mid h o2 d).set d ⟨rl,rr⟩).flatMap bZ):=by
  subst e6;exact(Ec xm.row rfl d (by rw[eY];exact hd2) ⟨rl,rr⟩).alloc O
 rw[<-hrc,SQ h o2 d hd2] at hrow;have hg5:w.heap.size+5<=g5/\g5<w5.heap.size:=xm.row.lt g5 rfl;have F:Fr (fun j=>j=g5) w5 w6:=by
  subst e6;refine Fr.alloc (Fr.setCell (Fr.setCell (Fr.setCell (Fr.setCell (Fr.setCell (Fr.setCell (Fr.refl _ _) ?_ _) ?_ _) ?_ _) ?_ _) ?_ _) ?_ _) O
  all_goals exact .inl rfl
 refine⟨aI hr5 F (fun j hj e=>?_),o2,.slice (some ⟨g5,0,none⟩) (mid h o2 d).length cc5,by rw[e2];exact wP hok _,hd2,by rw[e2];exact Bf hup (List.getElem?_eq_getElem hd),?_,?_⟩
 ·have:w.heap.size+4=j:=by simpa[Value.ownBlock] using hj
  omega
 ·rw[<-hcl,NQ hok.le hd,e2];simp[List.getD_eq_getElem?_getD,List.getElem?_eq_getElem hd]
 ·have hb:=xm.big;obtain⟨D,hD,hIs⟩:=xm.map;have n4:∀j,j<w.heap.size+4->¬j=g5:=fun j hj e=>by omega
  have hl:(mid h o2 d).length=(mid h o2 (d+1)).length:=by rw[eY,eY]
  exact{old:=xm.old.trans (F.below (by omega) (fun j hj=>n4 j (by omega))),big:=Nat.le_trans hb F.size,lF:=(F.cell (p:=⟨w.heap.size,0,none⟩) (by show w.heap.size<_;omega) (n4 _ (by show w.heap.size<_;omega))).trans xm.lF,hfz:=(F.frozen (p:=⟨w.heap.size,0,none⟩) (by show w.heap.size<_;omega) (n4 _ (by show w.heap.size<_;omega))).trans xm.hfz,tZ:=(F.cell (p:=⟨w.heap.size+1,0,none⟩) (by show w.heap.size+1<_;omega) (n4 _ (by show w.heap.size+1<_;omega))).trans xm.tZ,cfz:=(F.frozen (p:=⟨w.heap.size+1,0,none⟩) (by show w.heap.size+1<_;omega) (n4 _ (by show w.heap.size+1<_;omega))).trans xm.cfz,wS:=(F.cell (p:=⟨w.heap.size+3,0,none⟩) (by show w.heap.size+3<_;omega) (n4 _ (by show w.heap.size+3<_;omega))).trans xm.wS,row:=by rw[<-hl];exact hrow,len:=eY _ _ _,map:=⟨D,wT hD F (n4 _ (by omega)),hIs⟩}
theorem GI {w w1:World} {h:List aV} {l:List Val} {hv:Value} (hown:w1.ownsRow (w.heap.size+4) 53 3 (.slice (some ⟨w.heap.size+4,0,none⟩) 0 l.length) 0 [])
 (hg:(((((w.alloc (.cells #[hv] 27)).alloc (.cells #[.slice none 0 0] 27)).alloc (.map #[] 0)).alloc (.cells #[.map (some (w.heap.size+2))] 105))).grownBy w1 none) (hsz:w.heap.size+5<=w1.heap.size):Tn w h hv l 0 w1:=by
 have F:Fr nothing (((((w.alloc (.cells #[hv] 27)).alloc (.cells #[.slice none 0 0] 27)).alloc (.map #[] 0)).alloc (.cells #[.map (some (w.heap.size+2))] 105))) w1:=(Fr.refl _ _).grown hg (fun k hk=>by cases hk);refine⟨by simpa[dm] using hown,.slice none 0 0,?_⟩
 have e:dm h (l.take 0)=[]:=rfl;rw[e];refine{old:=(((((Below.refl _ w).alloc (Nat.le_refl _) _).alloc (by simp) _).alloc (by simp;try omega) _).alloc (by simp;try omega) _).trans (F.below (by simp;try omega) (fun _ _=>id)),big:=hsz,lF:=(F.cell (p:=⟨w.heap.size,0,none⟩) (by simp;try omega) id).trans ?_,hfz:=(F.frozen (p:=⟨w.heap.size,0,none⟩) (by simp;try omega) id).trans ?_,tZ:=(F.cell (p:=⟨w.heap.size+1,0,none⟩) (by simp;try omega) id).trans ?_,cfz:=(F.frozen (p:=⟨w.heap.size+1,0,none⟩) (by simp;try omega) id).trans ?_,wS:=(F.cell (p:=⟨w.heap.size+3,0,none⟩) (by simp) id).trans ?_,row:=by simpa[mid] using World.ownsRow_nil _ _ _ _,len:=rfl,map:=⟨.map [],wT ?_ F id,Maps.isMap_empty,fun i _=>⟨by simp[Maps.has],fun hm=>by simp at hm⟩⟩}
 ·rw[World.cell?_alloc_past _ _ _ (by simp;try omega),World.cell?_alloc_past _ _ _ (by simp;try omega),World.cell?_alloc_past _ _ _ (by simp),World.cell?_alloc_new];try rfl
 ·rw[World.frozen?_alloc_past _ _ _ (by simp;try omega),World.frozen?_alloc_past _ _ _ (by simp;try omega),World.frozen?_alloc_past _ _ _ (by simp),World.frozen?_alloc_new]
 ·rw[World.cell?_alloc_past _ _ _ (by simp;try omega),World.cell?_alloc_past _ _ _ (by simp),World.cell?_alloc_at _ _ _ _ (by simp)];try rfl
 ·rw[World.frozen?_alloc_past _ _ _ (by simp;try omega),World.frozen?_alloc_past _ _ _ (by simp),World.frozen?_alloc_at _ _ _ _ (by simp)]
 ·rw[World.cell?_alloc_at _ _ _ _ (by simp)];try rfl
 ·have:=World.ownsMap_made ((w.alloc (.cells #[hv] 27)).alloc (.cells #[.slice none 0 0] 27)) Tryz.prog 3 (plainElem (H:=Unit) Tryz.prog 3);simpa using this.alloc (.cells #[.map (some (w.heap.size+2))] 105)
set_option maxHeartbeats 400000 in
theorem L9 (cl:List aV) (vl:List Val) (hv lv:Value) (w:World) (hh:Sl bZ 6 w hv cl) (hl:Sl aP 3 w lv vl) (hmh:cl.length*64<=140737488351232) (hml:vl.length*32<=140737488351232):
 Calls Tryz.prog 23 #[hv,lv] w fun e w'=>∃xv kv,e=.returned (.tuple #[xv,kv])/\Sl aP 3 w' xv (mO cl vl)/\Sl bZ 6 w' kv (CE cl vl)/\Below w.heap.size w w'/\xv=.slice (some ⟨w.heap.size+4,0,none⟩) vl.length vl.length/\∀b,kv.ownBlock=some b->w.heap.size<=b:=by
 obtain⟨la,lc,rfl,hll,q1⟩:=id hl;obtain⟨ha,hcp,rfl,Oo,q2⟩:=id hh;clear q1 q2;have HH:=hide hh;have HL:=hide hl;clear hh hl;obtain⟨i0,hi0,hz0,hz1,hz2⟩:=info_parts Ww;have hmm:=@run_makeMap Tryz.prog
 go_enter Tryz.func23,Tryz.ntmps23
 unfold maxLen at hll Oo
 go_wp2_with (at_make;refine wpList_make_own _ rfl _ _ 49 rfl (w.heap.size+4) 53 i0 _ 3 Tryz.underlying49 hi0 hz0 hz1 .i64 .i64 _ vl.length rfl rfl rfl (by rw[hz2];omega) (by unfold maxLen;omega) (by simp) ?_;intro w1 hown1 hgrow1)
 have e4:((((w.alloc (Obj.cells #[Value.slice ha cl.length hcp] 27)).alloc (Obj.cells #[Value.slice none 0 0] 27)).alloc (Obj.map #[] 0)).alloc (Obj.cells #[Value.map (some (w.heap.size+1+1))] 105)).heap.size=w.heap.size+4:=by simp
 rw[e4] at hown1;have HS:Hid (Tn w cl (.slice ha cl.length hcp) vl 0 w1):=GI hown1 hgrow1 (by have h4:w.heap.size+4<w1.heap.size:=(hown1.lt _ rfl).2;omega)
 clear e4;clear hown1 hgrow1 hmm
 go_loopw [9,10,22] (fun v9 v10 v22 wr=>∃k:Nat,k<=vl.length/\v22=.int .i64 k/\v9=.slice (some ⟨w.heap.size+4,0,none⟩) k vl.length/\v10=.int .i64 ((dm cl (vl.take k)).length:Nat)/\Hid (Tn w cl (.slice ha cl.length hcp) vl k wr)) (fun _ _ i _=>vl.length-(intOf i).toNat)
 case atStart=>exact⟨0,Nat.zero_le _,rfl,rfl,rfl,HS⟩
 case round=>
  obtain⟨k,hk,rfl,rfl,rfl,hC⟩:=hrel;clear HS
  by_cases hlt:k<vl.length
  ·obtain⟨hrow,cw,hI⟩:=hC.out;have HR:=hide hrow;have HI:=hide hI;obtain⟨b,off,cap,he,hb,x0,x1,x2⟩:=Gs HL.out hlt;obtain⟨rfl,rfl⟩:la=some ⟨b,off,none⟩/\lc=cap:=by simpa using he
   rw[<-hI.old.cell (p:=⟨b,_,none⟩) hb] at x0 x1 x2;have hB:w.heap.size+5<=wr.heap.size:=hI.big;clear hrow hI hC he;have HO:=hide (LP cl (vl.take k))
   go_wp2_with (first
    |(go_at_call 51;refine(wV w cl (.slice ha cl.length hcp) _ _ _ _ vl[k] (HI.out.fr ((Fr.refl nothing _).alloc _) (fun _ _=>id) (fun _ _=>id)) HH.out hmh HO.out.1).mono ?_;rintro e w2 ⟨rfl,⟨cw2,hI2⟩,hF2⟩;have hr2:=Bn HR.out HI.out hF2;generalize Sc:ren cl.length (meet cl.length (dm cl (List.take k vl)) vl[k]) vl[k]=rv at*;have Vt:=hide Sc;clear Sc)
    |(at_builtin;refine wpList_append_fits _ rfl _ _ 49 rfl (w.heap.size+4) 53 i0 3 Tryz.underlying49 hi0 hz1 (w.heap.size+4) k vl.length _ rfl (hr2.alloc _) ⟨w2.heap.size,0,none⟩ 1 1 (aP rv) rfl rfl (abH _ _ _) (NU _) (by omega) ?_;intro w3 hown3 hgrow3))
   have HS2:Hid (Tp w cl (.slice ha cl.length hcp) vl k (dm cl (vl.take k)).length w3):=GG hlt HO.out HI.out hI2 (by rw[Vt.out];exact hown3) hgrow3;have hOl:(dm cl (vl.take k)).length<=cl.length:=HO.out.1.le;clear hown3 hgrow3 hI2 hF2 hr2 Vt HI HR x0 x1 x2
   go_loopw [10] (fun v10 wi=>∃d:Nat,v10=.int .i64 d/\d<=cl.length/\Hid (Tp w cl (.slice ha cl.length hcp) vl k d wi)) (fun i _=>cl.length-(intOf i).toNat)
   case atStart=>exact⟨_,rfl,hOl,HS2⟩
   case round=>
    obtain⟨d,rfl,hdc,hC2⟩:=hrel;clear HS2;obtain⟨hrow,o,Ve,hok,hdo,hup,hcl,DL⟩:=hC2.out;obtain⟨ca,cc,rfl⟩:=DL.shape;have hcb:=DL.tZ;have hlen:=eY cl o d;rw[hlen] at hcb;have hB3:=DL.big;have hol:=hok.le;have HP:=hide (And.intro hrow (And.intro hok (And.intro hup (And.intro hcl DL))));clear hrow hok hup hcl DL hC2 hlen
    by_cases hd:d<o.length
    ·obtain⟨g,rfl,y0,y1,y2⟩:=HP.out.2.2.2.2.left hd
     go_wp2_with fail
     refine(wV w cl (.slice ha cl.length hcp) _ _ _ _ (cellAt cl o[d]).l HP.out.2.2.2.2 HH.out hmh HP.out.2.1).mono ?_
     rintro e w4 ⟨rfl,⟨cw4,WB⟩,jW⟩;obtain⟨o1,ho1⟩:∃o1,o1=meet cl.length o (cellAt cl o[d]).l:=⟨_,rfl⟩
     have hp1:o<+:o1:=by rw[ho1];exact iA _ _ _
     have hok1:Ok cl.length o1:=by rw[ho1];exact mP HP.out.2.1 _
     have hr4:=GH HP.out.1 HP.out.2.2.2.2 jW;rw[wW HP.out.2.2.1 hdo (by rw[<-ho1];exact hp1),<-ho1] at WB
     obtain⟨rl,hrl⟩:∃rl,rl=ren cl.length o1 (cellAt cl o[d]).l:=⟨_,rfl⟩
     rw[<-ho1,<-hrl];have hd1:d<o1.length:=Nat.lt_of_lt_of_le hd hp1.length_le;have hod:o1[d]=o[d]:=xy hp1 hd;obtain⟨ca4,cc4,rfl⟩:=WB.shape;obtain⟨g4,rfl,z3,z4,z5⟩:=WB.right hd1;have ZP:=WB.tZ;rw[hod] at z3 z4 z5;rw[eY] at ZP;have hB4:=WB.big;have ho1l:=hok1.le;have g4lt:g4<w4.heap.size:=lt_of_cell z3;have b4lt:w.heap.size+1<w4.heap.size:=by omega
     have H4:=hide (And.intro ho1 (And.intro hp1 (And.intro hok1 (And.intro hr4 (And.intro WB (And.intro hrl hod))))));clear ho1 hp1 hok1 hr4 WB jW hrl hod y0 y1 y2 hcb
     go_wp2_with fail
     refine(wV w cl (.slice ha cl.length hcp) _ _ _ _ (cellAt cl o[d]).r (H4.out.2.2.2.2.1.fr ((Fr.refl nothing _).alloc _) (fun _ _=>id) (fun _ _=>id)) HH.out hmh H4.out.2.2.1).mono ?_
     rintro e w5 ⟨rfl,⟨cw5,xm⟩,jd⟩;obtain⟨o2,ho2⟩:∃o2,o2=meet cl.length o1 (cellAt cl o[d]).r:=⟨_,rfl⟩
     have hp2:o1<+:o2:=by rw[ho2];exact iA _ _ _
     have hr5:=Bn H4.out.2.2.2.1 H4.out.2.2.2.2.1 jd;rw[wW (L6 HP.out.2.2.1 hdo H4.out.2.1) (Nat.le_of_lt hd1) (by rw[<-ho2];exact hp2),<-ho2] at xm
     obtain⟨rr,hrr⟩:∃rr,rr=ren cl.length o2 (cellAt cl o[d]).r:=⟨_,rfl⟩
     rw[<-ho2,<-hrr];have hd2:d<o2.length:=Nat.lt_of_lt_of_le hd1 hp2.length_le;obtain⟨ca5,cc5,rfl⟩:=xm.shape;obtain⟨g5,rfl,s0,s1,s2,s3,s4,s5,s6,s7,s8,s9,s10,s11⟩:=xm.there hd2;have abJ:=xm.tZ;rw[eY] at abJ;have Tm:=xm.big;have hsz5:w4.heap.size+1<=w5.heap.size:=by have:=jd.size;simpa using this
     have g5lt:g5<w5.heap.size:=lt_of_cell s0;have b5lt:w.heap.size+1<w5.heap.size:=by omega
     have hl5:w4.heap.size<w5.heap.size:=by omega
     have nS:¬nu w (.slice (some ⟨g4,0,none⟩) (mid cl o1 d).length cc4) w4.heap.size:=by
      rintro(hx|hx|hx)
      ·omega
      ·omega
      ·simp[Value.ownBlock] at hx;omega
     have t0:=(jd.cell (p:=⟨w4.heap.size,0,none⟩) (by simp) nS).trans (World.cell?_alloc_new _ _ _ _);have t1:=(jd.cell (p:=⟨w4.heap.size,1,none⟩) (by simp) nS).trans (World.cell?_alloc_new _ _ _ _);have t2:=(jd.cell (p:=⟨w4.heap.size,2,none⟩) (by simp) nS).trans (World.cell?_alloc_new _ _ _ _);simp only[List.getElem?_toArray,List.getElem?_cons_zero,List.getElem?_cons_succ] at t0 t1 t2;have H5:=hide (And.intro ho2 (And.intro hp2 (And.intro hr5 (And.intro xm hrr))));clear ho2 hp2 hr5 xm jd hrr z3 z4 z5 ZP nS
     go_wp2
     go_roundw
     case rel=>exact⟨d+1,by go_num,by omega,L8 hd hdo HP.out H4.out.1 H4.out.2.2.2.2.2.1 H5.out.1 H5.out.2.2.1 H5.out.2.2.2.1 H5.out.2.2.2.2 _ _ rfl⟩
     case measure=>simp[intOf];omega
    ·go_wp2
     go_roundw
     case rel=>exact⟨k+1,by omega,by go_num,rfl,Ol HP.out hd hdo,Om HP.out hd hdo⟩
     case measure=>simp[intOf];omega
  ·obtain rfl:k=vl.length:=by omega
   obtain⟨hrow,cw,hI⟩:=hC.out;have hcb:=hI.tZ;have HR:=hide hrow;have HI:=hide hI;clear hrow hI hC
   go_wp2
   go_region
   all_goals go_wp2
   all_goals go_ret2
   all_goals
    exact⟨_,cw,rfl,LZ HR.out,Gz HI.out,HI.out.old.drew,rfl,fun b e=>by have:=(HI.out.row.lt b e).1;omega⟩
end Cl
end
section
structure ai where
 a:Option Addr
 n:Nat
 c:Nat
abbrev ai.v (s:ai):Value:=.slice s.a s.n s.c
abbrev aN:ai:=⟨none,0,0⟩
structure rR where
 k:Int
 n:Int
 t:Bs
 s:ai
structure rU where
 k:Int
 t:Bs
 a:ai
 x:ai
 y:ai
structure qH where
 t:Bs
 p:ai
 b:ai
abbrev ev (r:rR):Value:=.agg #[.int .i64 r.k,.int .i64 r.n,.string (bs r.t),.slice r.s.a r.s.n r.s.c]
abbrev sv (r:rU):Value:=.agg #[.int .i64 r.k,.string (bs r.t),.slice r.a.a r.a.n r.a.c,.slice r.x.a r.x.n r.x.c,.slice r.y.a r.y.n r.y.c]
abbrev gv (r:qH):Value:=.agg #[.string (bs r.t),.slice r.p.a r.p.n r.p.c,.slice r.b.a r.b.n r.b.c]
def fQ (r:rR):List Value:=[.int .i64 r.k,.int .i64 r.n,.string (bs r.t),.slice r.s.a r.s.n r.s.c]
def encS (r:rU):List Value:=[.int .i64 r.k,.string (bs r.t),.slice r.a.a r.a.n r.a.c,.slice r.x.a r.x.n r.x.c,.slice r.y.a r.y.n r.y.c]
def ug (r:qH):List Value:=[.string (bs r.t),.slice r.p.a r.p.n r.p.c,.slice r.b.a r.b.n r.b.c]
def jP (r:Bs):List Value:=[.string (bs r)]
def Each {ρ α:Type} (ok:ρ->α->Prop) (rs:List ρ) (l:List α):Prop:=rs.length=l.length/\∀(i:Nat) (r:ρ) (x:α),rs[i]?=some r->l[i]?=some x->ok r x
inductive bF (w:World) (P:Nat->Prop):rR->Ex->Prop
 |mk (k n:Int) (t:Bs) (s:ai) (rs:List rR) (l:List Ex) (hs:Sl fQ 4 w s.v rs) (hP:∀b,s.v.ownBlock=some b->P b) (hl:rs.length=l.length)
  (h:∀(i:Nat) (r:rR) (x:Ex),rs[i]?=some r->l[i]?=some x->bF w P r x):bF w P ⟨k,n,t,s⟩ (.mk k n t l)
inductive gy (w:World) (P:Nat->Prop):rU->St->Prop
 |mk (k:Int) (t:Bs) (a x y:ai) (ra:List rR) (rx ry:List rU) (la:List Ex) (lx ly:List St)
  (ha:Sl fQ 4 w a.v ra) (hPa:∀b,a.v.ownBlock=some b->P b) (ha2:Each (bF w P) ra la)
  (hx:Sl encS 5 w x.v rx) (Vu:∀b,x.v.ownBlock=some b->P b) (hx1:rx.length=lx.length) (hx2:∀(i:Nat) (r:rU) (z:St),rx[i]?=some r->lx[i]?=some z->gy w P r z)
  (hy:Sl encS 5 w y.v ry) (Vv:∀b,y.v.ownBlock=some b->P b) (hy1:ry.length=ly.length) (hy2:∀(i:Nat) (r:rU) (z:St),ry[i]?=some r->ly[i]?=some z->gy w P r z):
  gy w P ⟨k,t,a,x,y⟩ (.mk k t la lx ly)
structure Ee (w:World) (P:Nat->Prop) (r:qH) (f:Fn):Prop where
 t:r.t=f.t
 p:Sl jP 1 w r.p.v f.p
 pP:∀b,r.p.v.ownBlock=some b->P b
 b:∃rs,Sl encS 5 w r.b.v rs/\Each (gy w P) rs f.b
 bP:∀b,r.b.v.ownBlock=some b->P b
def CQ (_:World) (_:Nat->Prop) (r:Bs) (x:Bs):Prop:=r=x
theorem Sl.keep {α:Type} {enc:α->List Value} {sz:Nat} {w w':World} {v:Value} {l:List α} {S P:Nat->Prop} (h:Sl enc sz w v l) (hf:Fr S w w') (hP:∀b,v.ownBlock=some b->P b) (hs:∀k,P k->¬S k):Sl enc sz w' v l:=
 h.fr hf fun k hk=>by
  obtain⟨ao,n,c,rfl,rfl⟩:=hk;exact hs _ (hP _ rfl)
def kV {ρ α:Type} (ok:World->(Nat->Prop)->ρ->α->Prop):Prop:=∀(w w':World) (S P P':Nat->Prop) (r:ρ) (x:α),ok w P r x->Fr S w w'->(∀k,P k->¬S k)->(∀k,P k->P' k)->ok w' P' r x
theorem av:kV bF:=by
 intro w w' S P P' r x h hf hs hm
 induction h with
 |mk k n t s rs l hsl hP hl _ ih=>exact .mk k n t s rs l (hsl.keep hf hP hs) (fun b hb=>hm _ (hP b hb)) hl ih
theorem aT:kV gy:=by
 intro w w' S P P' r x h hf hs hm
 induction h with
 |mk k t a x y ra rx ry la lx ly ha hPa ha2 hx Vu hx1 _ hy Vv hy1 _ ihx ihy=>
  exact .mk k t a x y ra rx ry la lx ly (ha.keep hf hPa hs) (fun b hb=>hm _ (hPa b hb)) ⟨ha2.1,fun i r z h1 h2=>av w w' S P P' r z (ha2.2 i r z h1 h2) hf hs hm⟩ (hx.keep hf Vu hs) (fun b hb=>hm _ (Vu b hb)) hx1 ihx
   (hy.keep hf Vv hs) (fun b hb=>hm _ (Vv b hb)) hy1 ihy
theorem xz:kV Ee:=by
 intro w w' S P P' r x h hf hs hm;obtain⟨rs,h1,h2⟩:=h.b;exact⟨h.t,h.p.keep hf h.pP hs,fun b hb=>hm _ (h.pP b hb),⟨rs,h1.keep hf h.bP hs,h2.1,fun i r z k1 k2=>aT w w' S P P' r z (h2.2 i r z k1 k2) hf hs hm⟩,fun b hb=>hm _ (h.bP b hb)⟩
theorem lN:kV CQ:=fun _ _ _ _ _ _ _ h _ _ _=>h
theorem bW (w:World) (O:Obj):(w.alloc O).heap[w.heap.size]?=some O:=by unfold World.alloc;simp
theorem aI {w w':World} {base e sz:Nat} {v:Value} {n:Nat} {xs:List Value} {S:Nat->Prop} (h:w.ownsRow base e sz v n xs) (hf:Fr S w w') (hs:∀k,v.ownBlock=some k->¬S k):w'.ownsRow base e sz v n xs:=by
 refine⟨h.1,?_⟩
 rcases h.2 with h0|⟨g,cap,cur,rfl,hb,hg,hr⟩
 ·exact .inl h0
 ·refine .inr ⟨g,cap,cur,rfl,hb,?_,hr⟩
  rw[hf.block g ((h.lt g rfl).2) (hs g rfl)];exact hg
theorem bX {w:World} {base e sz:Nat} {v:Value} {n:Nat} {xs:List Value} (h:w.ownsRow base e sz v n xs) {b:Nat} (hb:b<base):some b≠v.ownBlock:=by
 intro e;have:=(h.lt b e.symm).1;omega
def Row {ρ α:Type} (E sz:Nat) (enc:ρ->List Value) (ok:World->(Nat->Prop)->ρ->α->Prop) (base:Nat) (v:Value) (l:List α) (w:World):Prop:=
 ∃rs:List ρ,w.ownsRow base E sz v l.length (rs.flatMap enc)/\base<=w.heap.size/\Each (ok w (fun k=>base<=k/\k<w.heap.size/\v.ownBlock≠some k)) rs l
section
variable {ρ α : Type} {E sz : Nat} {enc : ρ → List Value} {ok : World → (Nat → Prop) → ρ → α → Prop} {base : Nat}
theorem Row.nil (w:World) (hb:base<=w.heap.size):Row E sz enc ok base (.slice none 0 0) [] w:=
 ⟨[],World.ownsRow_nil _ _ _ _,hb,rfl,fun i r x h=>by simp at h⟩
theorem Row.fr (hst:kV ok) {v:Value} {l:List α} {w w':World} {S:Nat->Prop} (h:Row E sz enc ok base v l w) (hf:Fr S w w') (hs:∀k,S k->k<base):Row E sz enc ok base v l w':=by
 obtain⟨rs,h1,h2,h3,h4⟩:=h;refine⟨rs,aI h1 hf (fun k hk e=>by have:=(h1.lt k hk).1;have:=hs k e;omega),Nat.le_trans h2 hf.size,h3,fun i r x k1 k2=>hst w w' S _ _ r x (h4 i r x k1 k2) hf (fun k hk e=>?_) (fun k hk=>⟨hk.1,Nat.lt_of_lt_of_le hk.2.1 hf.size,hk.2.2⟩)⟩
 have:=hs k e;have:=hk.1;omega
theorem Row.shape {v:Value} {l:List α} {w:World} (h:Row E sz enc ok base v l w):∃a c,v=.slice a l.length c:=by
 obtain⟨rs,h1,_⟩:=h;rcases h1.2 with⟨h2,h3⟩|⟨g,cap,cur,h2,_⟩
 ·exact⟨none,0,by rw[h2,h3]⟩
 ·exact⟨_,cap,h2⟩
theorem Row.push (hst:kV ok) {v v':Value} {l:List α} {w w1 w9:World} {r:ρ} {x:α} {B:Nat} (h:Row E sz enc ok base v l w) {S S9:Nat->Prop} (hf:Fr S w w1) (hs:∀k,S k->k<base) (hB:w.heap.size<=B)
 (hr:ok w1 (fun k=>B<=k/\k<w1.heap.size) r x) (iI:Fr S9 w1 w9) (Gg:∀k,S9 k->k<base\/v.ownBlock=some k)
 (h9:∀rs:List ρ,w.ownsRow base E sz v l.length (rs.flatMap enc)->w9.ownsRow base E sz v' (l.length+1) (rs.flatMap enc++enc r)) (rE:v'.ownBlock=v.ownBlock\/∃g,v'.ownBlock=some g/\w1.heap.size<=g):
 Row E sz enc ok base v' (l++ [x]) w9:=by
 obtain⟨rs,h1,h2,h3,h4⟩:=h;have hsz:=Nat.le_trans hf.size iI.size;have key:∀k,base<=k->k<w1.heap.size->v.ownBlock≠some k->v'.ownBlock≠some k:=by
  intro k _ k2 k3 e;rcases rE with rE|⟨g,rE,hg⟩
  ·exact k3 (rE▸e)
  ·rw[rE] at e;cases e
   omega
 refine⟨rs++ [r],?_,Nat.le_trans h2 hsz,by simp[h3],fun i r' x' k1 k2=>?_⟩
 ·have:=h9 rs h1;simpa using this
 ·rcases Nat.lt_or_ge i l.length with hi|hi
  ·rw[List.getElem?_append_left (by omega)] at k1;rw[List.getElem?_append_left hi] at k2;have a1:=hst w w1 S _ (fun k=>base<=k/\k<w1.heap.size/\v.ownBlock≠some k) r' x' (h4 i r' x' k1 k2) hf (fun k hk e=>by have:=hs k e;have:=hk.1;omega) (fun k hk=>⟨hk.1,Nat.lt_of_lt_of_le hk.2.1 hf.size,hk.2.2⟩)
   refine hst w1 w9 S9 _ _ r' x' a1 iI (fun k hk e=>?_) (fun k hk=>⟨hk.1,Nat.lt_of_lt_of_le hk.2.1 iI.size,key k hk.1 hk.2.1 hk.2.2⟩)
   rcases Gg k e with h|h
   ·have:=hk.1;omega
   ·exact hk.2.2 h
  ·have e1:i=l.length:=by
    have:=(List.getElem?_eq_some_iff.1 k2).1;simp at this
    omega
   subst e1;rw[<-h3,List.getElem?_append_right (Nat.le_refl _)] at k1;rw[List.getElem?_append_right (Nat.le_refl _)] at k2;simp at k1 k2
   subst k1 k2;have hlt:∀k,v.ownBlock=some k->k<w.heap.size:=fun k hk=>(h1.lt k hk).2
   refine hst w1 w9 S9 _ _ r x hr iI (fun k hk e=>?_) (fun k hk=>⟨by omega,Nat.lt_of_lt_of_le hk.2 iI.size,key k (by omega) hk.2 (fun e=>by have:=hlt k e;omega)⟩)
   rcases Gg k e with h|h
   ·omega
   ·have:=hlt k h;omega
theorem Row.done (hst:kV ok) (hen:∀x,(enc x).length=sz) {v:Value} {l:List α} {w:World} {B:Nat} (h:Row E sz enc ok base v l w) (hB:B<=base):
 ∃rs:List ρ,Sl enc sz w v rs/\(∀b,v.ownBlock=some b->B<=b/\b<w.heap.size)/\Each (ok w (fun k=>B<=k/\k<w.heap.size)) rs l:=by
 obtain⟨rs,h1,h2,h3,h4⟩:=h;refine⟨rs,eX hen (h3▸h1),fun b hb=>?_,h3,fun i r x k1 k2=>hst w w nothing _ _ r x (h4 i r x k1 k2) (Fr.refl _ _) (fun _ _=>id) (fun k hk=>⟨by omega,hk.2.1⟩)⟩
 have:=h1.lt b hb;omega
end
theorem dI (r:rR):(fQ r).length=4:=rfl
theorem nY (r:rU):(encS r).length=5:=rfl
theorem Oq (r:qH):(ug r).length=3:=rfl
theorem rV (r:Bs):(jP r).length=1:=rfl
theorem jD (w:World) (P:Nat->Prop) (k n:Int) (t:Bs):bF w P ⟨k,n,t,aN⟩ (.mk k n t []):=
 .mk k n t aN [] [] ⟨none,0,rfl,by unfold maxLen;simp,fun i x h=>by simp at h⟩ (fun b h=>by cases h) rfl (fun i r x h=>by simp at h)
theorem af {w w1:World} {cs:Array Value} {t:TypeId} {S:Nat->Prop} (hf:Fr S (w.alloc (.cells cs t)) w1) (hs:¬S w.heap.size):
 (∀j,w1.cell? ⟨w.heap.size,j,none⟩=cs[j]?)/\(∀j,w1.frozen? ⟨w.heap.size,j,none⟩=false)/\w.heap.size<w1.heap.size:=by
 have hz:=hf.size;simp at hz
 refine⟨fun j=>?_,fun j=>?_,by omega⟩
 ·rw[hf.cell (p:=⟨w.heap.size,j,none⟩) (by simp) hs,World.cell?_alloc_new]
 ·rw[hf.frozen (p:=⟨w.heap.size,j,none⟩) (by simp) hs,World.frozen?_alloc_new]
theorem Fr.then {S S':Nat->Prop} {a b c:World} (h:Fr S a b) (k:Fr S' b c) (hs:∀j,j<a.heap.size->S' j->S j):Fr S a c:=
 ⟨k.os.trans h.os,k.tape.trans h.tape,k.output.trans h.output,Nat.le_trans h.size k.size,fun j hj hn=>(k.block j (Nat.lt_of_lt_of_le hj h.size) (fun e=>hn (hs j hj e))).trans (h.block j hj hn)⟩
theorem behind {xs ys:List Value} {m j:Nat} {u:Value} (hm:xs.length=m) (h:ys[j]?=some u):(xs++ys)[m+j]?=some u:=by
 subst hm;rw[List.getElem?_append_right (by omega)];rw[show xs.length+j-xs.length=j by omega];exact h
theorem xA {w:World} {base E n cap g:Nat} {xs:List Value} {a b c d:Value} (h:w.ownsRow base E 4 (.slice (some ⟨g,0,none⟩) (n+1) cap) (n+1) (xs++ [a,b,c,d])) (hx:xs.length=n*4):
 (w.cell? ⟨g,n*4,none⟩=some a/\w.cell? ⟨g,n*4+1,none⟩=some b/\w.cell? ⟨g,n*4+2,none⟩=some c/\w.cell? ⟨g,n*4+3,none⟩=some d)/\w.frozen? ⟨g,n*4,none⟩=false/\w.frozen? ⟨g,n*4+1,none⟩=false/\w.frozen? ⟨g,n*4+2,none⟩=false/\w.frozen? ⟨g,n*4+3,none⟩=false:=by
 refine⟨⟨?_,?_,?_,?_⟩,h.frozenAt _,h.frozenAt _,h.frozenAt _,h.frozenAt _⟩
 ·rw[h.cellAt _ (by omega)];exact behind (j:=0) hx rfl
 ·rw[h.cellAt _ (by omega)];exact behind (j:=1) hx rfl
 ·rw[h.cellAt _ (by omega)];exact behind (j:=2) hx rfl
 ·rw[h.cellAt _ (by omega)];exact behind (j:=3) hx rfl
theorem uj {w:World} {base e sz:Nat} {v:Value} {n:Nat} {xs ys:List Value} (h:w.ownsRow base e sz v n xs) (k:w.ownsRow base e sz v n ys):xs=ys:=by
 rcases h.2 with⟨h1,h2⟩|⟨g,cap,cur,rfl,hb,hg,hr1,hr2,hr3,hr4⟩
 ·subst h2;have e1:=h.1;have e2:=k.1;simp at e1 e2
  rw[e1,e2]
 ·rcases k.2 with⟨h1,_⟩|⟨g',cap',cur',h1,hb',hg',hs1,hs2,hs3,hs4⟩
  ·cases h1
  ·cases h1
   rw[hg] at hg';cases hg'
   rw[<-hr4,hs4]
theorem add_eq (b o j:Nat):(⟨b,o,none⟩:Addr).add j=⟨b,o+j,none⟩:=by
 by_cases h0:j=0<;>simp[Addr.add,h0]
theorem aO (n:Int) (h0:-9223372036854775808<=n) (h1:n<=9223372036854775807):IntKind.i64.wrap n=n:=by
 rw[IntKind.wrap_i64];omega
theorem ay {α:Type} {enc:α->List Value} {sz:Nat} {w:World} {s:ai} {rs:List α} (h:Sl enc sz w s.v rs):s.n=rs.length/\rs.length<=9223372036854775807:=by
 obtain⟨ao,cap,he,hm,_⟩:=h;simp only[Value.slice.injEq] at he;exact⟨he.2.1,by unfold maxLen at hm;omega⟩
theorem nZ {w:World} {s:ai} {rs:List Bs} (h:Sl jP 1 w s.v rs) {i:Nat} {r:Bs} (hi:rs[i]?=some r):∃b off,s.a=some ⟨b,off,none⟩/\b<w.heap.size/\w.cell? ⟨b,off+i,none⟩=some (.string (bs r)):=by
 obtain⟨ao,cap,he,_,hc⟩:=h;obtain⟨b,off,rfl,hb,hcell⟩:=hc i r hi;simp only[Value.slice.injEq] at he;have:=hcell 0 _ rfl;rw[Nat.mul_one,Nat.add_zero] at this;exact⟨b,off,he.1,hb,this⟩
end
end Go.Proofs.YtbcadjgpcfmkfaaGreatDoor
