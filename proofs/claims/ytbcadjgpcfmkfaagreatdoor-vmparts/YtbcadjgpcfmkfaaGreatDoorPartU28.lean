/- Rep; Push; ClosE. -/
import Derived.Lib.AppendIntMem
import Derived.Shelf.Strconv.Itoa3
import Derived.Test.YtbcadjgpcfmkfaaGreatDoorPartU6
import Derived.Test.YtbcadjgpcfmkfaaGreatDoorPartU27
import Derived.Test.YtbcadjgpcfmkfaaGreatDoorPartU4
import Derived.Test.YtbcadjgpcfmkfaaGreatDoorPartU1
set_option maxHeartbeats 0
set_option maxRecDepth 100000
set_option linter.unusedSimpArgs false
namespace Go.Proofs.YtbcadjgpcfmkfaaGreatDoor
open Go Go.RowKit
section
abbrev rC (w:World):Prop:=Lib.TabIs Tryz.prog w "internal/strconv.uint64pow10" .u64 Lib.pow10Tab
theorem CO (w:World) (n:Nat) (os:Array Obj):Fr nothing w (Sort.grow (w.drewN n) os):=
 ⟨rfl,rfl,rfl,by simp[Sort.grow],fun k hk _=>by simp[Sort.grow,Array.getElem?_append_left hk]⟩
structure Er (w:World):Prop where
 s:∃ev,w.cell? ⟨1,0,none⟩=some ev/\(ev=.nilIface\/∃te pe,ev=.iface te pe)
 r:∃ev,w.cell? ⟨2,0,none⟩=some ev/\(ev=.nilIface\/∃te pe,ev=.iface te pe)
theorem Er.fr {S:Nat->Prop} {w w':World} (h:Er w) (hf:Fr S w w') (h0:¬S 1) (h1:¬S 2):Er w':=by
 obtain⟨⟨a,ha,ha'⟩,⟨b,hb,hb'⟩⟩:=h;exact⟨⟨a,(hf.cell (p:=⟨1,0,none⟩) (lt_of_cell ha) h0).trans ha,ha'⟩,⟨b,(hf.cell (p:=⟨2,0,none⟩) (lt_of_cell hb) h1).trans hb,hb'⟩⟩
structure Pw (w0:World) (rb:Nat) (l:Bs) (z:Int) (w:World):Prop where
 pr:Pr rb l z w
 len:l.length<=1500
 vE:Below w0.heap.size w0 w
 ge:w0.heap.size<=rb
 tab:rC w0
 er:Er w0
theorem Pw.of {w0:World} {rb:Nat} {l l':Bs} {z z':Int} {w w':World} (h:Pw w0 rb l z w) (hp:Pr rb l' z' w') (hl:l'.length<=l.length) (hf:Fr (at_ rb) w w'):Pw w0 rb l' z' w':=
 ⟨hp,Nat.le_trans hl h.len,h.vE.trans (hf.below h.vE.size (fun k hk e=>by have:=h.ge;omega)),h.ge,h.tab,h.er⟩
theorem Pw.fr {w0:World} {rb:Nat} {l:Bs} {z:Int} {w w':World} {S:Nat->Prop} (h:Pw w0 rb l z w) (hf:Fr S w w') (hs:¬S rb) (hS:∀k,S k->w0.heap.size<=k):Pw w0 rb l z w':=
 ⟨h.pr.fr hf hs,h.len,h.vE.trans (hf.below h.vE.size (fun k hk e=>by have:=hS k e;omega)),h.ge,h.tab,h.er⟩
end
section
def dP (w:World) (g:Nat):Nat->List Value->World
 |_,[]=>w
 |o,u::us=>dP (w.setCell ⟨g,o,none⟩ u) g (o+1) us
def uK (cs:List Value):Nat->List Value->List Value
 |_,[]=>cs
 |o,u::us=>uK (cs.set o u) (o+1) us
theorem Fr.dP {S:Nat->Prop} {g:Nat} {us:List Value} {a b:World} {o:Nat} (h:Fr S a b) (hp:S g\/a.heap.size<=g):Fr S a (dP b g o us):=by
 induction us generalizing b o with
 |nil=>exact h
 |cons u us ih=>exact ih (b:=b.setCell ⟨g,o,none⟩ u) (o:=o+1) (h.setCell (p:=⟨g,o,none⟩) hp u)
theorem gV {g:Nat} {p:Addr} (h:g≠p.block) {us:List Value} {w:World} {o:Nat}:(dP w g o us).cell? p=w.cell? p:=by
 induction us generalizing w o with
 |nil=>rfl
 |cons u us ih=>exact(ih (w:=w.setCell ⟨g,o,none⟩ u) (o:=o+1)).trans (World.cell?_setCell_far w ⟨g,o,none⟩ _ _ h)
theorem iC {g:Nat} {p:Addr} {us:List Value} {w:World} {o:Nat}:(dP w g o us).frozen? p=w.frozen? p:=by
 induction us generalizing w o with
 |nil=>rfl
 |cons u us ih=>exact(ih (w:=w.setCell ⟨g,o,none⟩ u) (o:=o+1)).trans (World.frozen?_setCell ..)
theorem lu {base E sz n cap g:Nat} {us cs:List Value} {w:World} {o:Nat} (h:w.ownsRow base E sz (.slice (some ⟨g,0,none⟩) n cap) n cs):(dP w g o us).ownsRow base E sz (.slice (some ⟨g,0,none⟩) n cap) n (uK cs o us):=by
 induction us generalizing w o cs with
 |nil=>exact h
 |cons u us ih=>exact ih (w:=w.setCell ⟨g,o,none⟩ u) (o:=o+1) (cs:=cs.set o u) (h.stored o u).1
theorem qV:∀(us:List Value) (xs zs:List Value),zs.length=us.length->uK (xs++zs) xs.length us=xs++us
 |[],xs,zs,h=>by
  have:zs=[]:=List.length_eq_zero_iff.1 h;subst this;rfl
 |u::us,xs,[],h=>by simp at h
 |u::us,xs,y::zs,h=>by
  have e:(xs++y::zs).set xs.length u=(xs++ [u])++zs:=by
   rw[List.set_append_right _ _ (Nat.le_refl _)];simp
  show uK ((xs++y::zs).set xs.length u) (xs.length+1) us=_
  rw[e];have h2:=qV us (xs++ [u]) zs (by simpa using h);rw[List.length_append] at h2;simp only[List.length_cons,List.length_nil] at h2;rw[h2];simp
structure JL {ρ α:Type} (w0:World) (rb E sz:Nat) (enc:ρ->List Value) (ok:World->(Nat->Prop)->ρ->α->Prop) (w1:World) (bx off:Nat) (acc:List α) (l:Bs) (z:Int) (w:World):Prop where
 pw:Pw w0 rb l z w
 fr:Fr (fun k=>k=rb\/k=bx) w1 w
 fz:∀j,w.frozen? ⟨bx,j,none⟩=w1.frozen? ⟨bx,j,none⟩
 old:∀j,j≠off->w.cell? ⟨bx,j,none⟩=w1.cell? ⟨bx,j,none⟩
 le:z=0->acc.length+l.length<=1500
 row:∃s:ai,w.cell? ⟨bx,off,none⟩=some s.v/\Row E sz enc ok w1.heap.size s.v acc w
section
variable {ρ α : Type} {w0 : World} {rb E sz : Nat} {enc : ρ → List Value} {ok : World → (Nat → Prop) → ρ → α → Prop} {w1 : World} {bx off : Nat}
theorem JL.move (hst:kV ok) (hbx:bx<w1.heap.size) (hrb:rb<w1.heap.size) (hne:bx≠rb) {acc:List α} {l l':Bs} {z z':Int} {w w':World} (h:JL w0 rb E sz enc ok w1 bx off acc l z w)
 (hp:Pr rb l' z' w') (hl:l'.length<=l.length) (hz:z'=0->z=0) (hf:Fr (at_ rb) w w'):JL w0 rb E sz enc ok w1 bx off acc l' z' w':=by
 have hsz:=h.fr.size;obtain⟨s,h1,h2⟩:=h.row;exact{
  pw:=h.pw.of hp hl hf
  fr:=h.fr.trans (hf.mono (fun k _ e=> .inl e))
  fz:=fun j=>(hf.frozen (p:=⟨bx,j,none⟩) (by show bx<_;omega) hne).trans (h.fz j)
  old:=fun j hj=>(hf.cell (p:=⟨bx,j,none⟩) (by show bx<_;omega) hne).trans (h.old j hj)
  le:=fun h0=>by have:=h.le (hz h0);omega
  row:=⟨s,(hf.cell (p:=⟨bx,off,none⟩) (by show bx<_;omega) hne).trans h1,h2.fr hst hf (fun k e=>by show k<_;have:k=rb:=e;omega)⟩}
theorem JL.push (hst:kV ok) (hlen:∀r,(enc r).length=sz) (hbx:bx<w1.heap.size) (hrb:rb<w1.heap.size) (hne:bx≠rb) (hw0:w0.heap.size<=bx/\w0.heap.size<=w1.heap.size) {acc:List α} {l l':Bs} {z':Int} {w wA w6 w9:World} {s:ai} {g cp H:Nat} {r:ρ} {x:α} {xs zs us:List Value} (h:JL w0 rb E sz enc ok w1 bx off acc l 0 w)
 (hrow:Row E sz enc ok w1.heap.size s.v acc w) (hF:Fr (at_ rb) w wA) (hpA:Pw w0 rb l' z' wA) (hx:ok wA (fun k=>w.heap.size<=k/\k<wA.heap.size) r x) (hless:z'=0->l'.length<l.length)
 (hxs:wA.ownsRow w1.heap.size E sz s.v acc.length xs) (dG:w6.ownsRow w1.heap.size E sz (.slice (some ⟨g,0,none⟩) (acc.length+1) cp) (acc.length+1) (xs++zs)) (gJ:wA.grownBy w6 s.v.ownBlock) (hat:s.v.ownBlock=some g\/g=H) (hH:wA.heap.size<=H)
 (hzs:zs.length=sz) (hus:us=enc r) (X5:w6.cell? ⟨bx,off,none⟩=some s.v)
 (h9:w9=(dP w6 g (acc.length*sz) us).setCell ⟨bx,off,none⟩ (.slice (some ⟨g,0,none⟩) (acc.length+1) cp)\/w9=dP (w6.setCell ⟨bx,off,none⟩ (.slice (some ⟨g,0,none⟩) (acc.length+1) cp)) g (acc.length*sz) us\/(zs=us/\w9=w6.setCell ⟨bx,off,none⟩ (.slice (some ⟨g,0,none⟩) (acc.length+1) cp))):
 JL w0 rb E sz enc ok w1 bx off (acc++ [x]) l' z' w9:=by
 subst hus;have hsz:=h.fr.size;have hszA:=hF.size;have jA:∀k,s.v.ownBlock=some k->w1.heap.size<=k/\k<wA.heap.size:=hxs.lt
 have hgb:g≠bx:=by
  rcases hat with e|e
  ·have:=(jA g e).1;omega
  ·omega
 have hgr:g≠rb:=by
  rcases hat with e|e
  ·have:=(jA g e).1;omega
  ·omega
 have hat':s.v.ownBlock=some g\/wA.heap.size<=g:=by
  rcases hat with e|e
  ·exact .inl e
  ·exact .inr (by omega)
 have F6:Fr (fun k=>k=bx\/s.v.ownBlock=some k) wA w6:=(Fr.refl _ wA).grown gJ (fun k hk=> .inl (.inr hk));have hgS:(g=bx\/s.v.ownBlock=some g)\/wA.heap.size<=g:=hat'.imp .inr id;have QD:Fr (fun k=>k=bx\/s.v.ownBlock=some k) wA w9:=by
  rcases h9 with rfl|rfl|⟨hzu,rfl⟩
  ·exact(F6.dP hgS).setCell (p:=⟨bx,off,none⟩) (.inl (.inl rfl)) _
  ·exact Fr.dP (F6.setCell (p:=⟨bx,off,none⟩) (.inl (.inl rfl)) _) hgS
  ·exact F6.setCell (p:=⟨bx,off,none⟩) (.inl (.inl rfl)) _
 have hbS:∀(wa:World) (cs:List Value),wa.ownsRow w1.heap.size E sz (.slice (some ⟨g,0,none⟩) (acc.length+1) cp) (acc.length+1) cs->(wa.setCell ⟨bx,off,none⟩ (.slice (some ⟨g,0,none⟩) (acc.length+1) cp)).ownsRow w1.heap.size E sz (.slice (some ⟨g,0,none⟩) (acc.length+1) cp) (acc.length+1) cs:=fun wa cs hh=>
  aI hh (Fr.setCell (Fr.refl (fun k=>k=bx) wa) (p:=⟨bx,off,none⟩) (.inl rfl) _) (fun k hk e=>by
   have:g=k:=by simpa[Value.ownBlock] using hk
   omega)
 have hend:uK (xs++zs) (acc.length*sz) (enc r)=xs++enc r:=by
  have:=qV (enc r) xs zs (by rw[hzs,hlen])
  rwa [hxs.1] at this
 have X6:w9.ownsRow w1.heap.size E sz (.slice (some ⟨g,0,none⟩) (acc.length+1) cp) (acc.length+1) (xs++enc r):=by
  rcases h9 with rfl|rfl|⟨hzu,rfl⟩
  ·have:=lu (us:=enc r) (o:=acc.length*sz) dG;rw[hend] at this;exact hbS _ _ this
  ·have:=lu (us:=enc r) (o:=acc.length*sz) (hbS _ _ dG);rw[hend] at this;exact this
  ·rw[hzu] at dG;exact hbS _ _ dG
 have hcell:w9.cell? ⟨bx,off,none⟩=some (.slice (some ⟨g,0,none⟩) (acc.length+1) cp):=by
  rcases h9 with rfl|rfl|⟨hzu,rfl⟩
  ·exact World.cell?_setCell_same _ _ _ (by rw[gV hgb];exact X5)
  ·rw[gV hgb];exact World.cell?_setCell_same _ _ _ X5
  ·exact World.cell?_setCell_same _ _ _ X5
 have QE:some bx≠s.v.ownBlock:=fun e=>by have:=(jA bx e.symm).1;omega
 have JU:∀j,j≠off->w9.cell? ⟨bx,j,none⟩=w6.cell? ⟨bx,j,none⟩:=fun j hj=>by
  rcases h9 with rfl|rfl|⟨hzu,rfl⟩
  ·rw[World.cell?_setCell_other _ ⟨bx,off,none⟩ ⟨bx,j,none⟩ _ (fun e=>hj (by cases e;rfl)),gV hgb]
  ·rw[gV hgb,World.cell?_setCell_other _ ⟨bx,off,none⟩ ⟨bx,j,none⟩ _ (fun e=>hj (by cases e;rfl))]
  ·rw[World.cell?_setCell_other _ ⟨bx,off,none⟩ ⟨bx,j,none⟩ _ (fun e=>hj (by cases e;rfl))]
 have X7:∀j,w9.frozen? ⟨bx,j,none⟩=w6.frozen? ⟨bx,j,none⟩:=fun j=>by
  rcases h9 with rfl|rfl|⟨hzu,rfl⟩
  ·rw[World.frozen?_setCell,iC]
  ·rw[iC,World.frozen?_setCell]
  ·rw[World.frozen?_setCell]
 have sQ:bx<wA.heap.size:=by omega
 exact{
  pw:=hpA.fr QD (fun e=>by
   rcases e with e|e
   ·exact hne e.symm
   ·have:=(jA rb e).1;omega) (fun k e=>by
   rcases e with e|e
   ·omega
   ·have:=(jA k e).1;omega)
  fr:=(h.fr.trans (hF.mono (fun k _ e=> .inl e))).then QD (fun j hj e=>by
   rcases e with e|e
   ·exact .inr e
   ·have:=(jA j e).1;omega)
  fz:=fun j=>(X7 j).trans ((gJ.frozen_far ⟨bx,j,none⟩ sQ QE).trans ((hF.frozen (p:=⟨bx,j,none⟩) (by show bx<_;omega) hne).trans (h.fz j)))
  old:=fun j hj=>(JU j hj).trans ((gJ.cell_far ⟨bx,j,none⟩ sQ QE).trans ((hF.cell (p:=⟨bx,j,none⟩) (by show bx<_;omega) hne).trans (h.old j hj)))
  le:=fun h0=>by have:=h.le rfl;have:=hless h0;simp;omega
  row:=⟨⟨some ⟨g,0,none⟩,acc.length+1,cp⟩,hcell,hrow.push hst hF (fun k e=>by show k<_;have:k=rb:=e;omega) (Nat.le_refl _) hx QD (fun k e=>by
   rcases e with e|e
   ·exact .inl (by omega)
   ·exact .inr e) (fun rs hrs=>by
   have h2:wA.ownsRow w1.heap.size E sz s.v acc.length (rs.flatMap enc):=aI hrs hF (fun k hk e=>by have:=(hrs.lt k hk).1;have:k=rb:=e;omega);have:rs.flatMap enc=xs:=uj h2 hxs;rw[this];exact X6) (by
   rcases hat' with e|e
   ·exact .inl e.symm
   ·exact .inr ⟨g,rfl,e⟩)⟩}
end
end
section
def cO {ρ α:Type} (vv:ρ->Value) (ok:World->(Nat->Prop)->ρ->α->Prop) (rb:Nat) (w:World) (res:Rd α) (e:Ending) (w':World):Prop:=
 ∃r:ρ,e=.returned (vv r)/\Fr (at_ rb) w w'/\Pr rb res.l res.z w'/\ok w' (fun k=>w.heap.size<=k/\k<w'.heap.size) r res.v
theorem qW:(Tryz.prog.info? 139).map (fun i=>(i.zero,i.size,i.bytes))=some (some (.agg #[.int .i64 0,.int .i64 0,.string ⟨#[]⟩,.slice none 0 0]),4,56):=by kernel_rfl
set_option maxHeartbeats 1000000 in
set_option maxRecDepth 20000 in
theorem clE (w0:World) (rb:Nat) (w1:World) (bp bd bx:Nat) (deep:Int) (one:Reader Ex) (acc:List Ex) (l:Bs) (w:World)
 (hone:∀l w,Pw w0 rb l 0 w->Calls Tryz.prog 80 #[.pointer (some ⟨rb,0,none⟩),.int .i64 (deep+1)] w (cO ev bF rb w (one l 0)))
 (hless:Less one) (hsmall:Small one) (hd0:0<=deep) (hd1:deep<=100)
 (hcp:w1.cell? ⟨bp,0,none⟩=some (.pointer (some ⟨rb,0,none⟩))) (hcd:w1.cell? ⟨bd,0,none⟩=some (.int .i64 deep)) (hbx:bx<w1.heap.size) (hrb:rb<w1.heap.size)
 (hne:bp≠rb/\bp≠bx/\bd≠rb/\bd≠bx/\bx≠rb) (hw0:w0.heap.size<=bx/\w0.heap.size<=w1.heap.size) (hfz:w1.frozen? ⟨bx,3,none⟩=false)
 (hJ:JL w0 rb 139 4 fQ bF w1 bx 3 acc l 0 w):
 Calls Tryz.prog 84 #[.pointer (some ⟨bx,0,none⟩),.pointer (some ⟨bp,0,none⟩),.pointer (some ⟨bd,0,none⟩)] w fun e w'=>e=.returned (.tuple #[])/\JL w0 rb 139 4 fQ bF w1 bx 3 (acc++ [(one l 0).v]) (one l 0).l (one l 0).z w':=by
 obtain⟨⟨va,vn,vc⟩,hx3,hrow⟩:=hJ.row;obtain rfl:vn=acc.length:=by
  obtain⟨a,c,h⟩:=hrow.shape;cases h;rfl
 have MP:bp<w1.heap.size:=lt_of_cell hcp;have X8:bd<w1.heap.size:=lt_of_cell hcd;have a1:w.cell? ⟨bp,0,none⟩=some (.pointer (some ⟨rb,0,none⟩)):=(hJ.fr.cell (p:=⟨bp,0,none⟩) MP (by show ¬(bp=rb\/bp=bx);omega)).trans hcp
 have a2:w.cell? ⟨bd,0,none⟩=some (.int .i64 deep):=(hJ.fr.cell (p:=⟨bd,0,none⟩) X8 (by show ¬(bd=rb\/bd=bx);omega)).trans hcd;have hsz1:=hJ.fr.size;have l1:bp<w.heap.size:=by omega
 have l2:bd<w.heap.size:=by omega
 have l3:bx<w.heap.size:=by omega
 have fx:w.frozen? ⟨bx,3,none⟩=false:=(hJ.fz 3).trans hfz;have hacc:acc.length<=1500:=by have:=hJ.le rfl;omega
 have HC:Hid (∀w',Fr nothing w w'->Calls Tryz.prog 80 #[.pointer (some ⟨rb,0,none⟩),.int .i64 (deep+1)] w' (cO ev bF rb w' (one l 0))):=fun w' hf=>hone l w' (hJ.pw.fr hf id (fun k e=>e.elim))
 have HJ:=hide hJ;have HR:=hide hrow;have HL:Hid ((one l 0).z=0->(one l 0).l.length<l.length):=hless l;have Sy:Hid ((one l 0).l.length<=l.length):=hsmall l 0;have i0:(0:Int)<=(acc.length:Int):=by omega
 have i1:(acc.length:Int)<(acc.length:Int)+1:=by omega
 have i2:(acc.length:Int)<((acc.length+1:Nat):Int):=by omega
 clear hJ hone hcp hcd hrow hless hsmall;have hwr:IntKind.i64.wrap (deep+1)=deep+1:=aO _ (by omega) (by omega);obtain⟨j0,hj0,hy0,hy1,hy2⟩:=info_parts qW;have frame:∀w',Fr (at_ rb) w w'->w'.cell? ⟨bx,3,none⟩=some (.slice va acc.length vc)/\w'.cell? ⟨bp,0,none⟩=some (.pointer (some ⟨rb,0,none⟩))/\w'.cell? ⟨bd,0,none⟩=some (.int .i64 deep):=fun w' hf=>
  ⟨(hf.cell (p:=⟨bx,3,none⟩) l3 (by show ¬bx=rb;omega)).trans hx3,(hf.cell (p:=⟨bp,0,none⟩) l1 (by show ¬bp=rb;omega)).trans a1,(hf.cell (p:=⟨bd,0,none⟩) l2 (by show ¬bd=rb;omega)).trans a2⟩
 have fV:=hide frame;clear frame
 go_enter Tryz.func84,Tryz.ntmps84
 refine aS (S:=fun w'=>w'.cell? ⟨bx,3,none⟩=some (.slice va acc.length vc)/\w'.cell? ⟨bp,0,none⟩=some (.pointer (some ⟨rb,0,none⟩))/\w'.cell? ⟨bd,0,none⟩=some (.int .i64 deep)) (by kernel_rfl) [8] ?_ (fun hHeld=>?_)
 ·exact⟨hx3,a1,a2⟩
 refine bM 0 ?_
 refine bM 1 ?_
 refine bM 2 ?_
 refine bM 3 ?_
 refine bM 4 ?_
 refine bM 6 ?_
 refine rT [5,7] ?_
 refine cT (fun K hK=>?_) (cT (fun K hK=>?_) aZ.nil)
 ·refine aF rfl 80 Tryz.f80 #[.tmp 5,.tmp 7] #[109,3] rfl Tryz.func80 (by kernel_rfl) (by kernel_rfl) #[.pointer (some ⟨rb,0,none⟩),.int .i64 (deep+1)] (by simp[Act.eval]) _ (HC.out _ ((Fr.refl _ w).drew)) ?_
  rintro e w2 ⟨r,rfl,hF2,hP2,hx2⟩;have F2:Fr (at_ rb) w w2:=((Fr.refl _ w).drew).trans hF2;refine⟨_,rfl,hK.out _ _ (fV.out _ F2) ?_⟩
  clear hK K hHeld;have hHeld:=fV.out _ F2
  try simp only[Act.put,sA,sZ,sS]
  refine jN 7 (fun K hK=>?_)
  go_simp;refine hK.out _ _ (fV.out _ (F2.alloc _)) ?_
  clear hK K hHeld;have hHeld:=fV.out _ (F2.alloc (.cells #[.int .i64 0,.int .i64 0,.string ⟨#[]⟩,.slice none 0 0] 139))
  try simp only[Act.put,sA,sZ,sS]
  have FA:Fr (at_ rb) w (w2.alloc (.cells #[.int .i64 0,.int .i64 0,.string ⟨#[]⟩,.slice none 0 0] 139)):=F2.alloc _;have PA:Pr rb (one l 0).l (one l 0).z (w2.alloc (.cells #[.int .i64 0,.int .i64 0,.string ⟨#[]⟩,.slice none 0 0] 139)):=hP2.fr ((Fr.refl nothing w2).alloc _) id;have XA:bF (w2.alloc (.cells #[.int .i64 0,.int .i64 0,.string ⟨#[]⟩,.slice none 0 0] 139)) (fun k=>w.heap.size<=k/\k<(w2.alloc (.cells #[.int .i64 0,.int .i64 0,.string ⟨#[]⟩,.slice none 0 0] 139)).heap.size) r (one l 0).v:=av _ _ nothing _ _ _ _ hx2 ((Fr.refl nothing w2).alloc _) (fun _ _=>id) (fun k hk=>⟨hk.1,by have:=hk.2;simp;omega⟩)
  have NW:∀j u,([.int .i64 0,.int .i64 0,.string ⟨#[]⟩,.slice none 0 0]:List Value)[j]?=some u->(w2.alloc (.cells #[.int .i64 0,.int .i64 0,.string ⟨#[]⟩,.slice none 0 0] 139)).cell? ((⟨w2.heap.size,0,none⟩:Addr).add j)=some u:=World.news_of_block (cs:=#[.int .i64 0,.int .i64 0,.string ⟨#[]⟩,.slice none 0 0]) (t:=139) (fr:=(0,0)) (bW _ _)
  have PW:Pw w0 rb (one l 0).l (one l 0).z (w2.alloc (.cells #[.int .i64 0,.int .i64 0,.string ⟨#[]⟩,.slice none 0 0] 139)):=HJ.out.pw.of PA Sy.out FA;obtain⟨rs,hown,hbase,iD⟩:=HR.out;have bL:(w2.alloc (.cells #[.int .i64 0,.int .i64 0,.string ⟨#[]⟩,.slice none 0 0] 139)).ownsRow w1.heap.size 139 4 (.slice va acc.length vc) acc.length (rs.flatMap fQ):=aI hown FA (fun k hk e=>by have:=(hown.lt k hk).1;have:k=rb:=e;omega)
  have sQ:w1.heap.size<=(w2.alloc (.cells #[.int .i64 0,.int .i64 0,.string ⟨#[]⟩,.slice none 0 0] 139)).heap.size:=Nat.le_trans hsz1 FA.size;have OF:=bX bL (b:=bx) hbx;have gx:bx<(w2.alloc (.cells #[.int .i64 0,.int .i64 0,.string ⟨#[]⟩,.slice none 0 0] 139)).heap.size:=by omega
  have AV:(w2.alloc (.cells #[.int .i64 0,.int .i64 0,.string ⟨#[]⟩,.slice none 0 0] 139)).frozen? ⟨bx,3,none⟩=false:=(FA.frozen (p:=⟨bx,3,none⟩) l3 (by show ¬bx=rb;omega)).trans fx;have kN:=hide bL;have lC:=hide PW;have zG:=hide XA;have dL:=hide FA;clear iD hown bL PW XA FA PA;refine Al 8 (fun K hK=>?_)
  refine step_append_lies _ (by rfl) (.tmp 4) (.tmp 10) 134 (by rfl) w1.heap.size 139 j0 _ 4 56 Tryz.underlying134 hj0 hy0 hy1 hy2 rfl (by decide) (.slice va acc.length vc) acc.length _ (by simp[Act.eval]) kN.out ⟨w2.heap.size,0,none⟩ 1 1 [.int .i64 0,.int .i64 0,.string ⟨#[]⟩,.slice none 0 0] (by simp[Act.eval]) rfl NW (by simp[Value.oneCell']) (by decide) (by unfold maxLen;omega) (by omega) sQ _ rfl ?_
  intro g cp w6 dG gJ gL AY;have k3:w6.cell? ⟨bx,3,none⟩=some (.slice va acc.length vc):=(gJ.cell_far ⟨bx,3,none⟩ gx OF).trans hHeld.1;have kz:w6.frozen? ⟨bx,3,none⟩=false:=(gJ.frozen_far ⟨bx,3,none⟩ gx OF).trans AV;have k6:bx<w6.heap.size:=by have:=gJ.size;omega
  obtain⟨⟨q0,q1,q2,q3⟩,y0,y1,y2,y3⟩:=xA dG kN.out.1;have X9:¬g=bx:=by
   rcases gL with h|h
   ·intro e;subst e;exact OF h.symm
   ·omega
  have Ya:¬bx=g:=fun e=>X9 e.symm;have sU:=hide dG;have qd:=hide gJ;have HAT:=hide gL;clear dG gJ gL NW;refine hK.out _ _ ?_
  clear hK K hHeld
  try simp only[Act.put,sA,sZ,sS]
  refine wpAny_take (i:=9) (oi:={dst:=some 12,op:=Op.indexAddr 134 (Operand.tmp 11) (Operand.tmp 9),type:=0,pos:= "ref.go:415",after:=#[{on:=8,ground:=Ground.data},{on:=6,ground:=Ground.data},{on:=0,ground:=Ground.phase},{on:=1,ground:=Ground.phase},{on:=2,ground:=Ground.phase},{on:=3,ground:=Ground.phase},{on:=4,ground:=Ground.phase},{on:=5,ground:=Ground.phase},{on:=6,ground:=Ground.phase},{on:=7,ground:=Ground.phase},{on:=8,ground:=Ground.phase},{on:=12,ground:=Ground.gcOnly Departure.appendInPlace}],guard:=none}) (v:=?v7) rfl (by kernel_rfl) (by kernel_rfl) (by kernel_rfl) (fun _ _ _ h=>h) (Or.inl ⟨by rfl,?hy7⟩) ?rest7
  case hy7=>(intro w;go_simp;try with_reducible rfl)
  try simp only[Act.put,sA,sZ,sS]
  refine wpAny_take (i:=11) (oi:={dst:=some 13,op:=Op.fieldAddr 139 (Operand.tmp 0) 3,type:=0,pos:= "ref.go:415",after:=#[{on:=0,ground:=Ground.phase},{on:=1,ground:=Ground.phase},{on:=2,ground:=Ground.phase},{on:=3,ground:=Ground.phase},{on:=4,ground:=Ground.phase},{on:=5,ground:=Ground.phase},{on:=6,ground:=Ground.phase},{on:=7,ground:=Ground.phase},{on:=8,ground:=Ground.phase},{on:=9,ground:=Ground.textOnly Departure.appendInPlace},{on:=10,ground:=Ground.textOnly Departure.appendInPlace}],guard:=none}) (v:=?v8) rfl (by kernel_rfl) (by kernel_rfl) (by kernel_rfl) (fun _ _ _ h=>h) (Or.inl ⟨by rfl,?hy8⟩) ?rest8
  case hy8=>(intro w;go_simp;try with_reducible rfl)
  try simp only[Act.put,sA,sZ,sS]
  refine wpAny_ready (rs:=[10,12]) (by kernel_rfl) (by simp) ?_
  refine AllReady.cons rfl (fun K hK=>?_) (AllReady.cons rfl (fun K hK=>?_) AllReady.nil)
  ·go_simp;refine hK _ _ ?_
   clear hK K
   try simp only[Act.put,sA,sZ,sS]
   refine wpAny_ready (rs:=[12]) (by kernel_rfl) (by simp) ?_
   refine AllReady.cons rfl (fun K hK=>?_) AllReady.nil
   go_simp;refine hK _ _ ?_
   clear hK K
   try simp only[Act.put,sA,sZ,sS]
   refine wpAny_done (by kernel_rfl) ?_ _
   go_end0
   refine⟨rfl,?_⟩
   exact JL.push av dI hbx hrb hne.2.2.2.2 hw0 (us:=[.int .i64 r.k,.int .i64 r.n,.string (bs r.t),.slice r.s.a r.s.n r.s.c]) HJ.out HR.out dL.out lC.out zG.out HL.out kN.out sU.out qd.out HAT.out (Nat.le_refl _) rfl rfl k3 (.inl rfl)
  ·go_simp;refine hK _ _ ?_
   clear hK K
   try simp only[Act.put,sA,sZ,sS]
   refine wpAny_ready (rs:=[10]) (by kernel_rfl) (by simp) ?_
   refine AllReady.cons rfl (fun K hK=>?_) AllReady.nil
   go_simp;refine hK _ _ ?_
   clear hK K
   try simp only[Act.put,sA,sZ,sS]
   refine wpAny_done (by kernel_rfl) ?_ _
   go_end0
   refine⟨rfl,?_⟩
   exact JL.push av dI hbx hrb hne.2.2.2.2 hw0 (us:=[.int .i64 r.k,.int .i64 r.n,.string (bs r.t),.slice r.s.a r.s.n r.s.c]) HJ.out HR.out dL.out lC.out zG.out HL.out kN.out sU.out qd.out HAT.out (Nat.le_refl _) rfl rfl k3 (.inr (.inl rfl))
 ·go_simp;refine hK.out _ _ (fV.out _ ((Fr.refl _ w).drew.alloc _)) ?_
  clear hK K hHeld;have F1:Fr (at_ rb) w (w.drew.alloc (.cells #[.int .i64 0,.int .i64 0,.string ⟨#[]⟩,.slice none 0 0] 139)):=(Fr.refl _ w).drew.alloc _;have hHeld:=fV.out _ F1
  try simp only[Act.put,sA,sZ,sS]
  refine jN 5 (fun K hK=>?_)
  refine aF rfl 80 Tryz.f80 #[.tmp 5,.tmp 7] #[109,3] rfl Tryz.func80 (by kernel_rfl) (by kernel_rfl) #[.pointer (some ⟨rb,0,none⟩),.int .i64 (deep+1)] (by simp[Act.eval]) _ (HC.out _ ((Fr.refl _ w).drew.alloc _)) ?_
  rintro e w2 ⟨r,rfl,hF2,hP2,hx2⟩;have FA:Fr (at_ rb) w w2:=F1.trans hF2;refine⟨_,rfl,hK.out _ _ (fV.out _ FA) ?_⟩
  clear hK K hHeld;have hHeld:=fV.out _ FA
  try simp only[Act.put,sA,sZ,sS]
  have PA:Pr rb (one l 0).l (one l 0).z w2:=hP2;have XA:bF w2 (fun k=>w.heap.size<=k/\k<w2.heap.size) r (one l 0).v:=av _ _ nothing _ _ _ _ hx2 (Fr.refl nothing w2) (fun _ _=>id) (fun k hk=>⟨by have:=hk.1;simp at this;omega,hk.2⟩)
  have NW:∀j u,([.int .i64 0,.int .i64 0,.string ⟨#[]⟩,.slice none 0 0]:List Value)[j]?=some u->w2.cell? ((⟨w.heap.size,0,none⟩:Addr).add j)=some u:=fun j u hu=>by
   have h1:=World.news_of_block (cs:=#[.int .i64 0,.int .i64 0,.string ⟨#[]⟩,.slice none 0 0]) (t:=139) (fr:=(0,0)) (bW w.drew _) j u hu;rw[add_eq] at h1⊢;exact(hF2.cell (p:=⟨w.heap.size,0+j,none⟩) (by show w.heap.size<_;simp) (by show ¬w.heap.size=rb;omega)).trans h1
  have PW:Pw w0 rb (one l 0).l (one l 0).z w2:=HJ.out.pw.of PA Sy.out FA;obtain⟨rs,hown,hbase,iD⟩:=HR.out;have bL:w2.ownsRow w1.heap.size 139 4 (.slice va acc.length vc) acc.length (rs.flatMap fQ):=aI hown FA (fun k hk e=>by have:=(hown.lt k hk).1;have:k=rb:=e;omega)
  have sQ:w1.heap.size<=w2.heap.size:=Nat.le_trans hsz1 FA.size;have OF:=bX bL (b:=bx) hbx;have gx:bx<w2.heap.size:=by omega
  have AV:w2.frozen? ⟨bx,3,none⟩=false:=(FA.frozen (p:=⟨bx,3,none⟩) l3 (by show ¬bx=rb;omega)).trans fx;have kN:=hide bL;have lC:=hide PW;have zG:=hide XA;have dL:=hide FA;clear iD hown bL PW XA FA PA;refine Al 8 (fun K hK=>?_)
  refine step_append_lies _ (by rfl) (.tmp 4) (.tmp 10) 134 (by rfl) w1.heap.size 139 j0 _ 4 56 Tryz.underlying134 hj0 hy0 hy1 hy2 rfl (by decide) (.slice va acc.length vc) acc.length _ (by simp[Act.eval]) kN.out ⟨w.heap.size,0,none⟩ 1 1 [.int .i64 0,.int .i64 0,.string ⟨#[]⟩,.slice none 0 0] (by simp[Act.eval]) rfl NW (by simp[Value.oneCell']) (by decide) (by unfold maxLen;omega) (by omega) sQ _ rfl ?_
  intro g cp w6 dG gJ gL AY;have k3:w6.cell? ⟨bx,3,none⟩=some (.slice va acc.length vc):=(gJ.cell_far ⟨bx,3,none⟩ gx OF).trans hHeld.1;have kz:w6.frozen? ⟨bx,3,none⟩=false:=(gJ.frozen_far ⟨bx,3,none⟩ gx OF).trans AV;have k6:bx<w6.heap.size:=by have:=gJ.size;omega
  obtain⟨⟨q0,q1,q2,q3⟩,y0,y1,y2,y3⟩:=xA dG kN.out.1;have X9:¬g=bx:=by
   rcases gL with h|h
   ·intro e;subst e;exact OF h.symm
   ·omega
  have Ya:¬bx=g:=fun e=>X9 e.symm;have sU:=hide dG;have qd:=hide gJ;have HAT:=hide gL;clear dG gJ gL NW;refine hK.out _ _ ?_
  clear hK K hHeld
  try simp only[Act.put,sA,sZ,sS]
  refine wpAny_take (i:=9) (oi:={dst:=some 12,op:=Op.indexAddr 134 (Operand.tmp 11) (Operand.tmp 9),type:=0,pos:= "ref.go:415",after:=#[{on:=8,ground:=Ground.data},{on:=6,ground:=Ground.data},{on:=0,ground:=Ground.phase},{on:=1,ground:=Ground.phase},{on:=2,ground:=Ground.phase},{on:=3,ground:=Ground.phase},{on:=4,ground:=Ground.phase},{on:=5,ground:=Ground.phase},{on:=6,ground:=Ground.phase},{on:=7,ground:=Ground.phase},{on:=8,ground:=Ground.phase},{on:=12,ground:=Ground.gcOnly Departure.appendInPlace}],guard:=none}) (v:=?v9) rfl (by kernel_rfl) (by kernel_rfl) (by kernel_rfl) (fun _ _ _ h=>h) (Or.inl ⟨by rfl,?hy9⟩) ?rest9
  case hy9=>(intro w;go_simp;try with_reducible rfl)
  try simp only[Act.put,sA,sZ,sS]
  refine wpAny_take (i:=11) (oi:={dst:=some 13,op:=Op.fieldAddr 139 (Operand.tmp 0) 3,type:=0,pos:= "ref.go:415",after:=#[{on:=0,ground:=Ground.phase},{on:=1,ground:=Ground.phase},{on:=2,ground:=Ground.phase},{on:=3,ground:=Ground.phase},{on:=4,ground:=Ground.phase},{on:=5,ground:=Ground.phase},{on:=6,ground:=Ground.phase},{on:=7,ground:=Ground.phase},{on:=8,ground:=Ground.phase},{on:=9,ground:=Ground.textOnly Departure.appendInPlace},{on:=10,ground:=Ground.textOnly Departure.appendInPlace}],guard:=none}) (v:=?v10) rfl (by kernel_rfl) (by kernel_rfl) (by kernel_rfl) (fun _ _ _ h=>h) (Or.inl ⟨by rfl,?acp⟩) ?acr
  case acp=>(intro w;go_simp;try with_reducible rfl)
  try simp only[Act.put,sA,sZ,sS]
  refine wpAny_ready (rs:=[10,12]) (by kernel_rfl) (by simp) ?_
  refine AllReady.cons rfl (fun K hK=>?_) (AllReady.cons rfl (fun K hK=>?_) AllReady.nil)
  ·go_simp;refine hK _ _ ?_
   clear hK K
   try simp only[Act.put,sA,sZ,sS]
   refine wpAny_ready (rs:=[12]) (by kernel_rfl) (by simp) ?_
   refine AllReady.cons rfl (fun K hK=>?_) AllReady.nil
   go_simp;refine hK _ _ ?_
   clear hK K
   try simp only[Act.put,sA,sZ,sS]
   refine wpAny_done (by kernel_rfl) ?_ _
   go_end0
   refine⟨rfl,?_⟩
   exact JL.push av dI hbx hrb hne.2.2.2.2 hw0 (us:=[.int .i64 r.k,.int .i64 r.n,.string (bs r.t),.slice r.s.a r.s.n r.s.c]) HJ.out HR.out dL.out lC.out zG.out HL.out kN.out sU.out qd.out HAT.out (Nat.le_refl _) rfl rfl k3 (.inl rfl)
  ·go_simp;refine hK _ _ ?_
   clear hK K
   try simp only[Act.put,sA,sZ,sS]
   refine wpAny_ready (rs:=[10]) (by kernel_rfl) (by simp) ?_
   refine AllReady.cons rfl (fun K hK=>?_) AllReady.nil
   go_simp;refine hK _ _ ?_
   clear hK K
   try simp only[Act.put,sA,sZ,sS]
   refine wpAny_done (by kernel_rfl) ?_ _
   go_end0
   refine⟨rfl,?_⟩
   exact JL.push av dI hbx hrb hne.2.2.2.2 hw0 (us:=[.int .i64 r.k,.int .i64 r.n,.string (bs r.t),.slice r.s.a r.s.n r.s.c]) HJ.out HR.out dL.out lC.out zG.out HL.out kN.out sU.out qd.out HAT.out (Nat.le_refl _) rfl rfl k3 (.inr (.inl rfl))
end
end Go.Proofs.YtbcadjgpcfmkfaaGreatDoor
