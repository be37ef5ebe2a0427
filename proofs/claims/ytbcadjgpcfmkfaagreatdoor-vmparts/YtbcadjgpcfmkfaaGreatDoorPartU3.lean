/- CCome; CMid; CRight. -/
import Derived.Deep.Light
import Derived.Test.YtbcadjgpcfmkfaaGreatDoorPartU2
import Derived.Test.YtbcadjgpcfmkfaaGreatDoorPartU1
set_option maxHeartbeats 0
set_option maxRecDepth 100000
set_option linter.unusedSimpArgs false
namespace Go.Proofs.YtbcadjgpcfmkfaaGreatDoor
open Go Go.RowKit
section
open Go.pG
namespace Cl
def Kz (n:Nat) (o:List Nat) (D:DataW Unit):Prop:=
 Maps.IsMap D/\∀i:Nat,i<n->Maps.has D (.int .i64 i)=decide (i∈o)/\(i∈o->D.atKey (.int .i64 i) (.lit (.int .i64 0))=.lit (.int .i64 (o.idxOf i:Nat)))
structure CI (w0:World) (h:List aV) (hv:Value) (o:List Nat) (cs:List aV) (cw:Value) (w:World):Prop where
 old:Below w0.heap.size w0 w
 big:w0.heap.size+5<=w.heap.size
 lF:w.cell? ⟨w0.heap.size,0,none⟩=some hv
 hfz:w.frozen? ⟨w0.heap.size,0,none⟩=false
 tZ:w.cell? ⟨w0.heap.size+1,0,none⟩=some cw
 cfz:w.frozen? ⟨w0.heap.size+1,0,none⟩=false
 wS:w.cell? ⟨w0.heap.size+3,0,none⟩=some (.map (some (w0.heap.size+2)))
 row:w.ownsRow (w0.heap.size+5) 88 6 cw cs.length (cs.flatMap bZ)
 len:cs.length=o.length
 map:∃D:DataW Unit,w.ownsMap Tryz.prog 3 (plainElem Tryz.prog 3) (w0.heap.size+2) o.length D/\Kz h.length o D
set_option maxHeartbeats 400000 in
theorem mQ (n c : Int) (w : World)  :
    Calls Tryz.prog 52 #[.int .i64 n, .int .i64 c] w fun e w' => e = .returned (.bool (decide (0 ≤ n) && decide (n < c))) ∧ w' = w := by
  go_enter Tryz.func52, Tryz.ntmps52
  go_wp2
  all_goals go_ret
  · exact ⟨by simp [*], rfl⟩
  · exact ⟨by have : ¬ 0 ≤ n := by omega
              simp [*], rfl⟩
set_option maxHeartbeats 400000 in
theorem Wy (w0:World) (h:List aV) (hv:Value) (o:List Nat) (cs:List aV) (cw:Value) (w:World) (v:Val) (_hI:CI w0 h hv o cs cw w) (hk:v.k≠2):
 Calls Tryz.prog 51 #[vv v,.pointer (some ⟨w0.heap.size,0,none⟩),.pointer (some ⟨w0.heap.size+3,0,none⟩),.pointer (some ⟨w0.heap.size+1,0,none⟩)] w fun e w'=>e=.returned (vv v)/\Fr nothing w w':=by
 have hk':(v.k !=2)=true:=by simpa using hk
 clear hk
 go_enter Tryz.func51,Tryz.ntmps51
 go_wp2
 refine bodyPost_ret (v:=vv v) (by simp[results,Tryz.results51,go_sem]) rfl ⟨rfl,?_⟩
 exact((Fr.refl _ _).alloc _).alloc _
set_option maxHeartbeats 400000 in
theorem NR (w0:World) (h:List aV) (hv:Value) (ao:Option Addr) (cap:Nat) (o:List Nat) (cs:List aV) (cw:Value) (w:World) (v:Val) (hI:CI w0 h hv o cs cw w) (hk:v.k=2) (he:hv=.slice ao h.length cap) (hn:(decide (0<=v.n)&&decide (v.n<(h.length:Int)))=false):
 Calls Tryz.prog 51 #[vv v,.pointer (some ⟨w0.heap.size,0,none⟩),.pointer (some ⟨w0.heap.size+3,0,none⟩),.pointer (some ⟨w0.heap.size+1,0,none⟩)] w fun e w'=>e=.returned (vv v)/\Fr nothing w w':=by
 have hb:=hI.lF;have hB:w0.heap.size<w.heap.size:=by have:=hI.big;omega
 clear hI;obtain⟨vk,vn,vt⟩:=v;simp only at hk hn⊢;subst hk he
 go_enter Tryz.func51,Tryz.ntmps51
 go_wp2_with (go_at_call 52;refine(mQ _ _ _).mono ?_;rw[hn];rintro e w' ⟨rfl,rfl⟩)
 refine bodyPost_ret (v:=vv ⟨2,vn,vt⟩) (by simp[results,Tryz.results51,go_sem]) rfl ⟨rfl,?_⟩
 exact((Fr.refl _ _).alloc _).alloc _
theorem Eb (w:World):(zeroValue 3).run Tryz.prog w=.ok (.int .i64 0) w:=by kernel_rfl
theorem jO:Maps.Keyed Tryz.prog 3:=Maps.int_keyed Tryz.underlying3
set_option maxHeartbeats 400000 in
theorem NS (w0:World) (h:List aV) (ao:Option Addr) (cap:Nat) (o:List Nat) (cs:List aV) (cw:Value) (w:World) (i:Nat) (t:ByteArray) (hI:CI w0 h (.slice ao h.length cap) o cs cw w) (hm:h.length<=maxLen) (hi:i<h.length) (ho:i∈o):
 Calls Tryz.prog 51 #[vv ⟨2,i,t⟩,.pointer (some ⟨w0.heap.size,0,none⟩),.pointer (some ⟨w0.heap.size+3,0,none⟩),.pointer (some ⟨w0.heap.size+1,0,none⟩)] w fun e w'=>e=.returned (vv ⟨2,(o.idxOf i:Nat),t⟩)/\Fr nothing w w':=by
 have hb:=hI.lF;have hnb:=hI.wS;have hB0:w0.heap.size<w.heap.size:=by have:=hI.big;omega
 have hB3:w0.heap.size+3<w.heap.size:=by have:=hI.big;omega
 obtain⟨D,hD,hIs⟩:=hI.map;obtain⟨h1,h2⟩:=hIs.2 i hi;have h1':Maps.has D (.int .i64 i)=true:=by rw[h1];simpa using ho
 have H2:Hid (D.atKey (.int .i64 i) (.lit (.int .i64 0))=.lit (.int .i64 (o.idxOf i:Nat))):=h2 ho;clear hI hIs h1 h2 ho;unfold maxLen at hm
 go_enter Tryz.func51,Tryz.ntmps51
 have hn:(decide (0<=(i:Int))&&decide ((i:Int)<(h.length:Int)))=true:=by simp;omega
 have hwf:(Lit.int .i64 (i:Int)).wf=true:=WalkArith.wf_i64 (by omega)
 go_wp2_with (first
  |(go_at_call 52;refine(mQ _ _ _).mono ?_;rw[hn];rintro e w' ⟨rfl,rfl⟩)
  |(at_lookup;refine wpList_lookup_own_ok_int _ rfl _ _ 105 rfl 3 3 .i64 jO Tryz.underlying105 Tryz.underlying3 (Eb _) (w0.heap.size+2) o.length D rfl ((hD.alloc _).alloc _) _ _ rfl (Maps.keyOf_int_mk Tryz.underlying3 hwf) ?_;intro c hat hwc;rw[h1']))
 rw[H2.out] at hat;obtain rfl:(o.idxOf i:Int)=c:=by simpa using hat
 refine bodyPost_ret (v:=vv ⟨2,(o.idxOf i:Nat),t⟩) (by simp[results,Tryz.results51,go_sem]) rfl ⟨rfl,?_⟩
 exact((Fr.refl _ _).alloc _).alloc _
theorem uX {w:World} {v:Value} {h:List aV} (hs:Sl bZ 6 w v h) {i:Nat} (hi:i<h.length):
 ∃b off cap,v=.slice (some ⟨b,off,none⟩) h.length cap/\b<w.heap.size/\w.cell? ⟨b,off+i*6,none⟩=some (.int .i64 (cellAt h i).l.k)/\w.cell? ⟨b,off+i*6+1,none⟩=some (.int .i64 (cellAt h i).l.n)/\
  w.cell? ⟨b,off+i*6+2,none⟩=some (.string (cellAt h i).l.t)/\w.cell? ⟨b,off+i*6+3,none⟩=some (.int .i64 (cellAt h i).r.k)/\w.cell? ⟨b,off+i*6+4,none⟩=some (.int .i64 (cellAt h i).r.n)/\
  w.cell? ⟨b,off+i*6+5,none⟩=some (.string (cellAt h i).r.t):=by
 obtain⟨ao,cap,rfl,_,hc⟩:=hs;have hx:h[i]?=some (cellAt h i):=by
  unfold cellAt;rw[List.getD_eq_getElem?_getD,List.getElem?_eq_getElem hi];rfl
 obtain⟨b,off,rfl,hb,hc⟩:=hc i _ hx;exact⟨b,off,cap,rfl,hb,hc 0 _ rfl,hc 1 _ rfl,hc 2 _ rfl,hc 3 _ rfl,hc 4 _ rfl,hc 5 _ rfl⟩
theorem NT (x:aV):∀u∈bZ x,u.oneCell'=true:=by simp[bZ,Value.oneCell']
theorem NU (x:Val):∀u∈aP x,u.oneCell'=true:=by simp[aP,Value.oneCell']
theorem bW (w:World) (O:Obj):(w.alloc O).heap[w.heap.size]?=some O:=by unfold World.alloc;simp
theorem abG (w:World) (x:aV) (t:TypeId):∀j u,(bZ x)[j]?=some u->(w.alloc (.cells #[.int .i64 x.l.k,.int .i64 x.l.n,.string x.l.t,.int .i64 x.r.k,.int .i64 x.r.n,.string x.r.t] t)).cell? ((⟨w.heap.size,0,none⟩:Addr).add j)=some u:=
 World.news_of_block (cs:=#[.int .i64 x.l.k,.int .i64 x.l.n,.string x.l.t,.int .i64 x.r.k,.int .i64 x.r.n,.string x.r.t]) (t:=t) (fr:=(0,0)) (bW _ _)
theorem abH (w:World) (x:Val) (t:TypeId):∀j u,(aP x)[j]?=some u->(w.alloc (.cells #[.int .i64 x.k,.int .i64 x.n,.string x.t] t)).cell? ((⟨w.heap.size,0,none⟩:Addr).add j)=some u:=
 World.news_of_block (cs:=#[.int .i64 x.k,.int .i64 x.n,.string x.t]) (t:=t) (fr:=(0,0)) (bW _ _)
theorem iH {w w2:World} {O:Obj} {row:Option Nat} (hg:(w.alloc O).drew.grownBy w2 row) {b j:Nat} (hb:b<w.heap.size) (hne:some b≠row):w2.cell? ⟨b,j,none⟩=w.cell? ⟨b,j,none⟩:=by
 rw[hg.cell_far ⟨b,j,none⟩ (by simp[World.drew];omega) hne];exact World.cell?_alloc_past _ _ _ hb
theorem jI {w w2:World} {O:Obj} {row:Option Nat} (hg:(w.alloc O).drew.grownBy w2 row) {b j:Nat} (hb:b<w.heap.size) (hne:some b≠row):w2.frozen? ⟨b,j,none⟩=w.frozen? ⟨b,j,none⟩:=by
 rw[hg.frozen_far ⟨b,j,none⟩ (by simp[World.drew];omega) hne];exact World.frozen?_alloc_past _ _ _ hb
theorem bX {w:World} {base e sz:Nat} {v:Value} {n:Nat} {xs:List Value} (h:w.ownsRow base e sz v n xs) {b:Nat} (hb:b<base):some b≠v.ownBlock:=by
 intro e;have:=(h.lt b e.symm).1;omega
def nu (w0:World) (cw:Value):Nat->Prop:=fun k=>k=w0.heap.size+2\/k=w0.heap.size+1\/cw.ownBlock=some k
theorem vR {w:World} {p a:Addr} {v:Value} (h:p.block≠a.block):(w.setCell p v).cell? a=w.cell? a:=World.cell?_setCell_other w p a v (fun e=>h (by rw[e]))
theorem aI {w w':World} {base e sz:Nat} {v:Value} {n:Nat} {xs:List Value} {S:Nat->Prop} (h:w.ownsRow base e sz v n xs) (hf:Fr S w w') (hs:∀k,v.ownBlock=some k->¬S k):w'.ownsRow base e sz v n xs:=by
 refine⟨h.1,?_⟩
 rcases h.2 with h0|⟨g,cap,cur,rfl,hb,hg,hr⟩
 ·exact .inl h0
 ·refine .inr ⟨g,cap,cur,rfl,hb,?_,hr⟩
  rw[hf.block g ((h.lt g rfl).2) (hs g rfl)];exact hg
theorem wT {w w':World} {P:Program} {t:TypeId} {R:Value->Option (DataW Unit×List MemPlace)} {b n:Nat} {D:DataW Unit} {S:Nat->Prop} (h:w.ownsMap P t R b n D) (hf:Fr S w w') (hs:¬S b):w'.ownsMap P t R b n D:=by
 have hl:=h.lt;obtain⟨es,clock,hb,hr⟩:=h;exact⟨es,clock,by rw[hf.block b hl hs];exact hb,hr⟩
theorem LU {n:Nat} {o:List Nat} {D:DataW Unit} (h:Kz n o D) {i:Nat} (ho:i∉o) (hwf:WideAt.IsKeyLit (Lit.int .i64 (i:Int))):Kz n (o++ [i]) (D.put (.int .i64 i) (.lit (.int .i64 (o.length:Nat)))):=by
 refine⟨h.1.put _ _,fun j hj=>?_⟩
 by_cases e:j=i
 ·subst e;refine⟨by rw[Maps.has_put_same h.1 hwf];simp,fun _=>?_⟩
  rw[Maps.atKey_put_same h.1 hwf,List.idxOf_append,if_neg ho];simp
 ·have hne:(Lit.int .i64 (j:Int))≠Lit.int .i64 (i:Int):=by
   intro h;injection h with _ h;omega
  obtain⟨h1,h2⟩:=h.2 j hj;refine⟨by rw[Maps.has_put_other hne,h1];simp[e],fun hm=>?_⟩
  have hm':j∈o:=by simpa[e] using hm
  rw[Maps.atKey_put_other hne,h2 hm',List.idxOf_append,if_pos hm']
theorem NV {w0 w w1 w2:World} {h:List aV} {hv:Value} {o:List Nat} {cs:List aV} {ca:Option Addr} {cc i g cp:Nat} {t:ByteArray} {O1 O2 O3:Obj} {D:DataW Unit} (hI:CI w0 h hv o cs (.slice ca cs.length cc) w)
 (hIs:Kz h.length o D) (ho:i∉o)
 (hg1:((w.alloc O1).alloc O2).grownBy w1 (some (w0.heap.size+2)))
 (hm:w1.ownsMap Tryz.prog 3 (plainElem Tryz.prog 3) (w0.heap.size+2) (cs.length+1) (D.put (.int .i64 i) (.lit (.int .i64 (cs.length:Nat)))))
 (hg2:(w1.alloc O3).drew.grownBy w2 (Value.slice ca cs.length cc).ownBlock)
 (hr:w2.ownsRow (w0.heap.size+5) 88 6 (.slice (some ⟨g,0,none⟩) (cs.length+1) cp) (cs.length+1) (cs.flatMap bZ++bZ (cellAt h i)))
 (hat:(Value.slice ca cs.length cc).ownBlock=some g\/g=(w1.alloc O3).drew.heap.size)
 (k1:w2.cell? ⟨w0.heap.size+1,0,none⟩=some (.slice ca cs.length cc)) (k2:w2.frozen? ⟨w0.heap.size+1,0,none⟩=false) (w3:World)
 (e3:w3=(((((w2.setCell ⟨w0.heap.size+1,0,none⟩ (.slice (some ⟨g,0,none⟩) (cs.length+1) cp)).setCell ⟨w.heap.size,1,none⟩ (.int .i64 (cs.length:Nat))).setCell ⟨w.heap.size+1,0,none⟩ (.int .i64 2)).setCell ⟨w.heap.size+1,1,none⟩ (.int .i64 (cs.length:Nat))).setCell ⟨w.heap.size+1,2,none⟩ (.string t))):
 (∃Ve,CI w0 h hv (o++ [i]) (cs++ [cellAt h i]) Ve w3)/\Fr (nu w0 (.slice ca cs.length cc)) w w3:=by
 have hown:∀k,(Value.slice ca cs.length cc).ownBlock=some k->w0.heap.size+5<=k/\k<w.heap.size:=fun k hk=>hI.row.lt k hk
 have hbig:=hI.big;have F1:Fr (nu w0 (.slice ca cs.length cc)) w w1:=(((Fr.refl _ w).alloc O1).alloc O2).grown hg1 (fun k hk=>by left;left;simpa using hk.symm)
 have hs1:w.heap.size+2<=w1.heap.size:=by have:=hg1.size;simpa using this
 have hs2:w1.heap.size+1<=w2.heap.size:=by have:=hg2.size;simpa[World.drew] using this
 have F2:Fr (nu w0 (.slice ca cs.length cc)) w w2:=((F1.alloc O3).drew).grown hg2 (fun k hk=>by left;right;right;exact hk);have F3:Fr (nu w0 (.slice ca cs.length cc)) w w3:=by
  subst e3;refine Fr.setCell (Fr.setCell (Fr.setCell (Fr.setCell (Fr.setCell F2 ?_ _) ?_ _) ?_ _) ?_ _) ?_ _
  ·left;right;left;rfl
  ·right;exact Nat.le_refl _
  ·right;exact Nat.le_succ _
  ·right;exact Nat.le_succ _
  ·right;exact Nat.le_succ _
 have G:Fr (fun k=>k=w0.heap.size+1\/k=w.heap.size\/k=w.heap.size+1) w2 w3:=by
  subst e3;refine Fr.setCell (Fr.setCell (Fr.setCell (Fr.setCell (Fr.setCell (Fr.refl _ _) ?_ _) ?_ _) ?_ _) ?_ _) ?_ _
  ·exact .inl (.inl rfl)
  ·exact .inl (.inr (.inl rfl))
  ·exact .inl (.inr (.inr rfl))
  ·exact .inl (.inr (.inr rfl))
  ·exact .inl (.inr (.inr rfl))
 have M:Fr (fun k=>(k=w0.heap.size+1\/k=w.heap.size\/k=w.heap.size+1)\/(Value.slice ca cs.length cc).ownBlock=some k) w1 w3:=by
  refine Fr.trans ((((Fr.refl _ w1).alloc O3).drew).grown hg2 (fun k hk=> .inl (.inr hk))) (G.mono fun k _ hk=> .inl hk)
 have n0:¬nu w0 (.slice ca cs.length cc) w0.heap.size:=by
  rintro(hk|hk|hk)
  ·omega
  ·omega
  ·have:=hown _ hk;omega
 have n3:¬nu w0 (.slice ca cs.length cc) (w0.heap.size+3):=by
  rintro(hk|hk|hk)
  ·omega
  ·omega
  ·have:=hown _ hk;omega
 have hgne:g≠w.heap.size/\g≠w.heap.size+1/\g≠w0.heap.size+1:=by
  rcases hat with hk|hk
  ·have:=hown _ hk;omega
  ·simp[World.drew] at hk;omega
 have hfl:(cs++ [cellAt h i]).flatMap bZ=cs.flatMap bZ++bZ (cellAt h i):=by simp
 refine⟨⟨.slice (some ⟨g,0,none⟩) (cs.length+1) cp,?_⟩,F3⟩
 refine{old:=hI.old.trans (F3.below (by omega) ?_),big:=by have:=F3.size;omega,lF:=(F3.cell (p:=⟨w0.heap.size,0,none⟩) (by show w0.heap.size<_;omega) n0).trans hI.lF,hfz:=(F3.frozen (p:=⟨w0.heap.size,0,none⟩) (by show w0.heap.size<_;omega) n0).trans hI.hfz,tZ:=?_,cfz:=?_,wS:=(F3.cell (p:=⟨w0.heap.size+3,0,none⟩) (by show w0.heap.size+3<_;omega) n3).trans hI.wS,row:=?_,len:=by simp[hI.len],map:=?_}
 ·rintro k hk (hx|hx|hx)
  ·omega
  ·omega
  ·have:=hown _ hx;omega
 ·subst e3;rw[vR (by show w.heap.size+1≠w0.heap.size+1;omega),vR (by show w.heap.size+1≠w0.heap.size+1;omega),vR (by show w.heap.size+1≠w0.heap.size+1;omega),vR (by show w.heap.size≠w0.heap.size+1;omega)]
  exact World.cell?_setCell_same _ _ _ (h:=k1)
 ·subst e3;simpa[World.frozen?_setCell] using k2
 ·rw[List.length_append,hfl];exact aI hr G (fun k hk=>by
   have:g=k:=by simpa[Value.ownBlock] using hk
   omega)
 ·refine⟨_,?_,LU hIs ho ?_⟩
  ·have:=wT hm M (by
    rintro((hx|hx|hx)|hx)
    ·omega
    ·omega
    ·omega
    ·have:=hown _ hx;omega)
   rw[hI.len] at this;simpa using this
  ·trivial
set_option maxHeartbeats 400000 in
theorem NY (w0:World) (h:List aV) (hv:Value) (o:List Nat) (cs:List aV) (ca:Option Addr) (cc:Nat) (w:World) (i:Nat) (t:ByteArray) (hI:CI w0 h hv o cs (.slice ca cs.length cc) w) (hs:Sl bZ 6 w0 hv h)
 (hm:h.length*64<=140737488351232) (hi:i<h.length) (hok:cs.length<h.length) (ho:i∉o):
 Calls Tryz.prog 51 #[vv ⟨2,i,t⟩,.pointer (some ⟨w0.heap.size,0,none⟩),.pointer (some ⟨w0.heap.size+3,0,none⟩),.pointer (some ⟨w0.heap.size+1,0,none⟩)] w fun e w'=>e=.returned (vv ⟨2,(cs.length:Nat),t⟩)/\
  (∃Ve,CI w0 h hv (o++ [i]) (cs++ [cellAt h i]) Ve w')/\Fr (nu w0 (.slice ca cs.length cc)) w w':=by
 obtain⟨b,off,cap,rfl,hbl,c0,c1,c2,c3,c4,c5⟩:=uX hs hi;have hb:=hI.lF;have hnb:=hI.wS;have hcb:=hI.tZ;have hcf:=hI.cfz;have hB0:w0.heap.size<w.heap.size:=by have:=hI.big;omega
 have hB1:w0.heap.size+1<w.heap.size:=by have:=hI.big;omega
 have hB2:w0.heap.size+2<w.heap.size:=by have:=hI.big;omega
 have hB3:w0.heap.size+3<w.heap.size:=by have:=hI.big;omega
 have hbw:b<w.heap.size:=by omega
 rw[<-hI.old.cell (p:=⟨b,_,none⟩) hbl] at c0 c1 c2 c3 c4 c5;obtain⟨D,hD,hIs⟩:=hI.map;have h1':Maps.has D (.int .i64 i)=false:=by rw[(hIs.2 i hi).1];simpa using ho
 rw[<-hI.len] at hD;have HI:=hide hI;have HIs:=hide hIs;have HS:=hide hs;have HO:=hide ho;clear hI hIs ho hs;have hn:(decide (0<=(i:Int))&&decide ((i:Int)<(h.length:Int)))=true:=by simp;omega
 have hwf:(Lit.int .i64 (i:Int)).wf=true:=WalkArith.wf_i64 (by omega);have ZI:(Lit.int .i64 (cs.length:Int)).wf=true:=WalkArith.wf_i64 (by omega);obtain⟨i0,hi0,hz0,hz1,hz2⟩:=info_parts Wx
 go_enter Tryz.func51,Tryz.ntmps51
 go_wp2_with (first
  |(go_at_call 52;refine(mQ _ _ _).mono ?_;rw[hn];rintro e w' ⟨rfl,rfl⟩)
  |(at_lookup;refine wpList_lookup_own_ok_int _ rfl _ _ 105 rfl 3 3 .i64 jO Tryz.underlying105 Tryz.underlying3 (Eb _) (w0.heap.size+2) cs.length D rfl ((hD.alloc _).alloc _) _ _ rfl (Maps.keyOf_int_mk Tryz.underlying3 hwf) ?_;intro c hat hwc;rw[h1'])
  |(at_mapUpdate;refine wpList_mapUpdate_own _ rfl _ _ _ 105 rfl 3 3 jO Tryz.underlying105 _ (w0.heap.size+2) cs.length D rfl ((hD.alloc _).alloc _) (by unfold maxLen;omega) _ _ _ rfl rfl (Maps.keyOf_int_mk Tryz.underlying3 hwf) _ [] (plainElem_int Tryz.underlying3 ZI) ?_;intro w1 hown1 hgrow1))
 have Vf:w1.ownsRow (w0.heap.size+5) 88 6 (.slice ca cs.length cc) cs.length (cs.flatMap bZ):=by
  refine World.ownsRow.kept ((HI.out.row.alloc _).alloc _) hgrow1 ?_
  cases ca with
  |none=>exact .inl rfl
  |some a=>
   right
   have h5:=(HI.out.row.lt a.block rfl).1;simp[Value.ownBlock];omega
 have hsz1:w.heap.size+2<=w1.heap.size:=by have:=hgrow1.size;simpa using this
 have far:=fun(b j:Nat) (h1:b<w.heap.size+2) (h2:b≠w0.heap.size+2)=>hgrow1.cell_far ⟨b,j,none⟩ (by simpa using h1) (by simpa using h2);have LV:=fun(b j:Nat) (h1:b<w.heap.size+2) (h2:b≠w0.heap.size+2)=>hgrow1.frozen_far ⟨b,j,none⟩ (by simpa using h1) (by simpa using h2);have d0:=((far b (off+i*6) (by omega) (by omega)).trans (kS hbw)).trans c0;have d1:=((far b (off+i*6+1) (by omega) (by omega)).trans (kS hbw)).trans c1;have d2:=((far b (off+i*6+2) (by omega) (by omega)).trans (kS hbw)).trans c2;have d3:=((far b (off+i*6+3) (by omega) (by omega)).trans (kS hbw)).trans c3;have d4:=((far b (off+i*6+4) (by omega) (by omega)).trans (kS hbw)).trans c4;have d5:=((far b (off+i*6+5) (by omega) (by omega)).trans (kS hbw)).trans c5;have e0:=((far w0.heap.size 0 (by omega) (by omega)).trans (kS hB0)).trans hb;have e1:=((far (w0.heap.size+1) 0 (by omega) (by omega)).trans (kS hB1)).trans hcb;have e2:=((LV (w0.heap.size+1) 0 (by omega) (by omega)).trans (NL hB1)).trans hcf;have f0:=(far w.heap.size 0 (by omega) (by omega)).trans (World.cell?_alloc2_first _ _ _ _);have f1:=(far w.heap.size 1 (by omega) (by omega)).trans (World.cell?_alloc2_first _ _ _ _);have f2:=(far w.heap.size 2 (by omega) (by omega)).trans (World.cell?_alloc2_first _ _ _ _);have f3:=(LV w.heap.size 1 (by omega) (by omega)).trans (World.frozen?_alloc2_first _ _ _ _);have g0:=(far (w.heap.size+1) 0 (by omega) (by omega)).trans (World.cell?_alloc2_new _ _ _ _);have g1:=(far (w.heap.size+1) 1 (by omega) (by omega)).trans (World.cell?_alloc2_new _ _ _ _);have g2:=(far (w.heap.size+1) 2 (by omega) (by omega)).trans (World.cell?_alloc2_new _ _ _ _);have g3:=(LV (w.heap.size+1) 0 (by omega) (by omega)).trans (World.frozen?_alloc2_new _ _ _ _);have g4:=(LV (w.heap.size+1) 1 (by omega) (by omega)).trans (World.frozen?_alloc2_new _ _ _ _);have g5:=(LV (w.heap.size+1) 2 (by omega) (by omega)).trans (World.frozen?_alloc2_new _ _ _ _);simp only[List.getElem?_toArray,List.getElem?_cons_zero,List.getElem?_cons_succ] at f0 f1 f2 g0 g1 g2;clear far LV c0 c1 c2 c3 c4 c5 hb hcb hcf hnb;have hs1:w0.heap.size+1<w1.heap.size:=by omega
 have hs2:w.heap.size<w1.heap.size:=by omega
 have hs3:w.heap.size+1<w1.heap.size:=by omega
 have hs4:b<w1.heap.size:=by omega
 have hs5:w0.heap.size<w1.heap.size:=by omega
 have HG:=hide hgrow1;have o0:=bX Vf (b:=w0.heap.size+1) (by omega);have o1:some w.heap.size≠(Value.slice ca cs.length cc).ownBlock:=by
  intro e;have:=(HI.out.row.lt _ e.symm).2;omega
 have o2:some (w.heap.size+1)≠(Value.slice ca cs.length cc).ownBlock:=by
  intro e;have:=(HI.out.row.lt _ e.symm).2;omega
 have O0:=hide o0;have O1:=hide o1;have O2:=hide o2;clear o0 o1 o2;have HM:=hide hown1;clear hgrow1 hown1 hD h1' hat hwc
 go_region_law (refine step_append_lies _ rfl (.tmp 35) (.tmp 41) 27 rfl (w0.heap.size+5) 88 i0 _ 6 64 Tryz.underlying27 hi0 hz0 hz1 hz2 rfl (by decide) (.slice ca cs.length cc) cs.length (cs.flatMap bZ) (by simp[Act.eval]) (by exact Vf.alloc _) ⟨w1.heap.size,0,none⟩ 1 1 (bZ (cellAt h i)) (by simp[Act.eval]) rfl (by exact abG _ _ _) (NT _) (by decide) (by unfold maxLen;omega) (by omega) (by simp;omega) _ rfl ?_;intro g cp w2 hown2 hgrow2 NZ hlt2;have k1:=(iH hgrow2 hs1 O0.out).trans e1;have k2:=(jI hgrow2 hs1 O0.out).trans e2)
 all_goals
  have hz2:w.heap.size<w2.heap.size:=by have:=hgrow2.size;simp[World.drew] at this;omega
  have hz3:w.heap.size+1<w2.heap.size:=by have:=hgrow2.size;simp[World.drew] at this;omega
  have l0:=(iH hgrow2 hs2 O1.out).trans f0;have l1:=(iH hgrow2 hs2 O1.out).trans f1;have l2:=(iH hgrow2 hs2 O1.out).trans f2;have l3:=(jI hgrow2 hs2 O1.out).trans f3;have m0:=(iH hgrow2 hs3 O2.out).trans g0;have m1:=(iH hgrow2 hs3 O2.out).trans g1;have m2:=(iH hgrow2 hs3 O2.out).trans g2;have m3:=(jI hgrow2 hs3 O2.out).trans g3;have m4:=(jI hgrow2 hs3 O2.out).trans g4;have m5:=(jI hgrow2 hs3 O2.out).trans g5;clear d0 d1 d2 d3 d4 d5 e0 e1 e2 f0 f1 f2 f3 g0 g1 g2 g3 g4 g5 hn hwf ZI
  go_wp2
  refine bodyPost_ret (v:=vv ⟨2,(cs.length:Nat),t⟩) (by simp[results,Tryz.results51,go_sem, *]) rfl ⟨rfl,?_⟩
  exact NV (D:=D) HI.out HIs.out HO.out HG.out HM.out hgrow2 hown2 NZ k1 k2 _ rfl
theorem wV (w0:World) (h:List aV) (hv:Value) (o:List Nat) (cs:List aV) (cw:Value) (w:World) (v:Val) (hI:CI w0 h hv o cs cw w) (hs:Sl bZ 6 w0 hv h) (hm:h.length*64<=140737488351232) (hok:Ok h.length o):
 Calls Tryz.prog 51 #[vv v,.pointer (some ⟨w0.heap.size,0,none⟩),.pointer (some ⟨w0.heap.size+3,0,none⟩),.pointer (some ⟨w0.heap.size+1,0,none⟩)] w fun e w'=>e=.returned (vv (ren h.length (meet h.length o v) v))/\
  (∃Ve,CI w0 h hv (meet h.length o v) (cs++((meet h.length o v).drop o.length).map (cellAt h)) Ve w')/\Fr (nu w0 cw) w w':=by
 have N7:∀w',Fr nothing w w'->(∃Ve,CI w0 h hv o cs Ve w')/\Fr (nu w0 cw) w w':=by
  intro w' hf;have hlt:w0.heap.size+5<=w.heap.size:=hI.big;obtain⟨D,hD,hIs⟩:=hI.map;refine⟨⟨cw,{old:=hI.old.trans (hf.below (by omega) (fun _ _=>id)),big:=Nat.le_trans hlt hf.size,lF:=(hf.cell (p:=⟨w0.heap.size,0,none⟩) (by show w0.heap.size<_;omega) id).trans hI.lF,hfz:=(hf.frozen (p:=⟨w0.heap.size,0,none⟩) (by show w0.heap.size<_;omega) id).trans hI.hfz,tZ:=(hf.cell (p:=⟨w0.heap.size+1,0,none⟩) (by show w0.heap.size+1<_;omega) id).trans hI.tZ,cfz:=(hf.frozen (p:=⟨w0.heap.size+1,0,none⟩) (by show w0.heap.size+1<_;omega) id).trans hI.cfz,wS:=(hf.cell (p:=⟨w0.heap.size+3,0,none⟩) (by show w0.heap.size+3<_;omega) id).trans hI.wS,row:=aI hI.row hf (fun _ _=>id),len:=hI.len,map:=⟨D,wT hD hf id,hIs⟩}⟩,hf.mono (fun _ _ h=>h.elim)⟩
 obtain⟨ao,cap,rfl,hml,_⟩:=id hs
 by_cases hr:Ac h.length v=true
 ·obtain⟨hk,h0,h1⟩:=rM.1 hr;obtain⟨i,hi⟩:=Int.eq_ofNat_of_zero_le h0;obtain⟨vk,vn,vt⟩:=v;simp only at hk hi h1;subst hk hi;have hilt:i<h.length:=by omega
  by_cases ho:i∈o
  ·have e1:meet h.length o ⟨2,(i:Int),vt⟩=o:=by simp[meet,hr,ho]
   have e2:ren h.length o ⟨2,(i:Int),vt⟩=⟨2,(o.idxOf i:Nat),vt⟩:=by simp[ren,hr]
   rw[e1,e2];refine(NS w0 h ao cap o cs cw w i vt hI hml hilt ho).mono ?_
   rintro e w' ⟨rfl,hf⟩;exact⟨rfl,by simpa using N7 w' hf⟩
  ·have e1:meet h.length o ⟨2,(i:Int),vt⟩=o++ [i]:=by simp[meet,hr,ho]
   have e2:ren h.length (o++ [i]) ⟨2,(i:Int),vt⟩=⟨2,(o.length:Nat),vt⟩:=by simp[ren,hr,List.idxOf_append,ho]
   have hlt:o.length<h.length:=by
    have:=(mP hok ⟨2,(i:Int),vt⟩).le;rw[e1] at this;simp at this
    omega
   obtain⟨ca,cc,rfl⟩:∃ca cc,cw=.slice ca cs.length cc:=by
    rcases hI.row.2 with⟨rfl,h0⟩|⟨g,c,_,rfl,_⟩
    ·exact⟨none,0,by rw[h0]⟩
    ·exact⟨_,_,rfl⟩
   rw[e1,e2];refine(NY w0 h (.slice ao h.length cap) o cs ca cc w i vt hI hs hm hilt (by rw[hI.len];exact hlt) ho).mono ?_
   rintro e w' ⟨rfl,hx⟩;refine⟨by rw[hI.len],?_⟩
   simpa using hx
 ·have e1:meet h.length o v=o:=by simp[meet,hr]
  have e2:ren h.length o v=v:=by simp[ren,hr]
  rw[e1,e2]
  by_cases hk:v.k=2
  ·refine(NR w0 h (.slice ao h.length cap) ao cap o cs cw w v hI hk rfl ?_).mono ?_
   ·simpa[Ac,hk] using hr
   ·rintro e w' ⟨rfl,hf⟩;exact⟨rfl,by simpa using N7 w' hf⟩
  ·refine(Wy w0 h (.slice ao h.length cap) o cs cw w v hI hk).mono ?_
   rintro e w' ⟨rfl,hf⟩;exact⟨rfl,by simpa using N7 w' hf⟩
end Cl
end
section
open Go.pG
namespace Cl
def mid (h:List aV) (o:List Nat) (d:Nat):List aV:=(o.take d).map (wO h o)++(o.drop d).map (cellAt h)
theorem eY (h:List aV) (o:List Nat) (d:Nat):(mid h o d).length=o.length:=by
 simp[mid];omega
theorem SN (h:List aV) (o:List Nat):mid h o o.length=o.map (wO h o):=by simp[mid]
theorem Gr (h:List aV) (o:List Nat) (d:Nat) (hd:d<o.length):(mid h o d)[d]?=some (cellAt h o[d]):=by
 unfold mid;rw[List.getElem?_append_right (by simp;omega)]
 simp[List.getElem?_drop,Nat.min_eq_left (Nat.le_of_lt hd),List.getElem?_eq_getElem hd]
theorem wW {h:List aV} {o o':List Nat} {d:Nat} (hu:vJ h o d) (hd:d<=o.length) (hp:o<+:o'):mid h o d++(o'.drop o.length).map (cellAt h)=mid h o' d:=by
 obtain⟨s,rfl⟩:=hp;unfold mid;rw[List.take_append_of_le_length hd,List.drop_append_of_le_length hd,List.drop_left,List.map_append,List.append_assoc]
 congr 1
 refine List.map_congr_left fun i hi=>?_
 obtain⟨j,hj,rfl⟩:=List.getElem_of_mem hi;have h1:j<d:=by simp at hj;omega
 have h2:j<o.length:=by omega
 have h3:o[j]?=some o[j]:=List.getElem?_eq_getElem h2;rw[List.getElem_take];exact(D9 (List.prefix_append o s) (hu j _ h1 h3)).symm
theorem SQ (h:List aV) (o:List Nat) (d:Nat) (hd:d<o.length):(mid h o d).set d (wO h o o[d])=mid h o (d+1):=by
 unfold mid;have e:d-((o.take d).map (wO h o)).length=0:=by simp;omega
 rw[List.set_append_right _ _ (by simp;omega),e,List.take_succ_eq_append_getElem hd,List.drop_eq_getElem_cons hd,List.map_cons,List.set_cons_zero,List.map_append,List.append_assoc];rfl
theorem nW (h:List aV) (l:List Val) (k:Nat) (hk:k<l.length):dm h (l.take (k+1))=rO h (dm h (l.take k)) (l[k]):=by
 rw[List.take_succ_eq_append_getElem hk,LQ]
theorem N8 {h:List aV} {o:List Nat} {i:Nat}:wO h (qi h o i) i=⟨ren h.length (meet h.length o (cellAt h i).l) (cellAt h i).l,ren h.length (qi h o i) (cellAt h i).r⟩:=by
 unfold wO qi;rw[kg (iA _ (meet h.length o (cellAt h i).l) _) (fun x=>nV _ x)]
theorem LW {h:List aV} {l:List Val} {k:Nat} (hk:k<l.length):(l.take (k+1)).map (ren h.length (dm h (l.take (k+1))))=(l.take k).map (ren h.length (dm h (l.take k)))++ [ren h.length (meet h.length (dm h (l.take k)) l[k]) l[k]]:=by
 have hp:meet h.length (dm h (l.take k)) l[k]<+:dm h (l.take (k+1)):=by
  rw[nW h l k hk];exact pI _ _ _
 have hp0:dm h (l.take k)<+:dm h (l.take (k+1)):=(iA _ _ _).trans hp
 conv=>lhs;arg 2;rw[List.take_succ_eq_append_getElem hk]
 rw[List.map_append,List.map_cons,List.map_nil]
 congr 1
 ·refine List.map_congr_left fun v hv=>kg hp0 (fun hr=>NP hv hr)
 ·rw[kg hp (fun hr=>nV _ hr)]
theorem CI.fr {w0:World} {h:List aV} {hv:Value} {o:List Nat} {cs:List aV} {cw:Value} {w w':World} {S:Nat->Prop} (hI:CI w0 h hv o cs cw w) (hf:Fr S w w') (hs:∀k,k<w0.heap.size+4->¬S k) (ho:∀k,cw.ownBlock=some k->¬S k):
 CI w0 h hv o cs cw w':=by
 have hb:=hI.big;obtain⟨D,hD,hIs⟩:=hI.map;exact{old:=hI.old.trans (hf.below (by omega) (fun k hk=>hs k (by omega))),big:=Nat.le_trans hb hf.size,lF:=(hf.cell (p:=⟨w0.heap.size,0,none⟩) (by show w0.heap.size<_;omega) (hs _ (by show w0.heap.size<_;omega))).trans hI.lF,hfz:=(hf.frozen (p:=⟨w0.heap.size,0,none⟩) (by show w0.heap.size<_;omega) (hs _ (by show w0.heap.size<_;omega))).trans hI.hfz,tZ:=(hf.cell (p:=⟨w0.heap.size+1,0,none⟩) (by show w0.heap.size+1<_;omega) (hs _ (by show w0.heap.size+1<_;omega))).trans hI.tZ,cfz:=(hf.frozen (p:=⟨w0.heap.size+1,0,none⟩) (by show w0.heap.size+1<_;omega) (hs _ (by show w0.heap.size+1<_;omega))).trans hI.cfz,wS:=(hf.cell (p:=⟨w0.heap.size+3,0,none⟩) (by show w0.heap.size+3<_;omega) (hs _ (by show w0.heap.size+3<_;omega))).trans hI.wS,row:=aI hI.row hf ho,len:=hI.len,map:=⟨D,wT hD hf (hs _ (by omega)),hIs⟩}
theorem Bj (x:aV):∀(cs:List aV) (d:Nat),d<cs.length->((((((cs.flatMap bZ).set (d*6) (.int .i64 x.l.k)).set (d*6+1) (.int .i64 x.l.n)).set (d*6+2) (.string x.l.t)).set (d*6+3) (.int .i64 x.r.k)).set (d*6+4) (.int .i64 x.r.n)).set (d*6+5) (.string x.r.t)=(cs.set d x).flatMap bZ
 |[],d,hd=>absurd hd (by simp)
 |y::cs,0,_=>by simp[bZ]
 |y::cs,d+1,hd=>by
  have ih:=Bj x cs d (by simpa using hd);rw[List.flatMap_cons,List.set_cons_succ,List.flatMap_cons,<-ih];have e:∀(a:List Value) (j:Nat) (u:Value),(bZ y++a).set ((d+1)*6+j) u=bZ y++a.set (d*6+j) u:=by
   intro a j u;rw[List.set_append_right _ _ (by rw[jH];omega),jH]
   congr 2
   omega
  have e0:=e (cs.flatMap bZ) 0;simp only[Nat.add_zero] at e0;rw[e0,e,e,e,e,e]
theorem Ec {w:World} {base g n cap:Nat} {cs:List aV} (h:w.ownsRow base 88 6 (.slice (some ⟨g,0,none⟩) n cap) n (cs.flatMap bZ)) (hn:cs.length=n) (d:Nat) (hd:d<n) (x:aV):
 ((((((w.setCell ⟨g,d*6,none⟩ (.int .i64 x.l.k)).setCell ⟨g,d*6+1,none⟩ (.int .i64 x.l.n)).setCell ⟨g,d*6+2,none⟩ (.string x.l.t)).setCell ⟨g,d*6+3,none⟩ (.int .i64 x.r.k)).setCell ⟨g,d*6+4,none⟩ (.int .i64 x.r.n)).setCell ⟨g,d*6+5,none⟩ (.string x.r.t)).ownsRow base 88 6 (.slice (some ⟨g,0,none⟩) n cap) n ((cs.set d x).flatMap bZ):=by
 rw[<-Bj x cs d (by omega)];exact((((((h.stored _ _).1.stored _ _).1.stored _ _).1.stored _ _).1.stored _ _).1.stored _ _).1
end Cl
end
section
open Go.pG
namespace Cl
def CG (v:Val) (c:Int):Int:=
 if v.k=0 then(if v.n< -1073741824\/1073741824<v.n then 3 else if v.t.toList.isEmpty then 0 else 2)
 else if v.k=1 then(if 60<v.t.size then 4 else if v.n≠0 then 2 else 0)
 else if v.k=2 then(if v.n<0\/c<=v.n then 6 else if v.t.toList.isEmpty then 0 else 2)
 else 1
def wX (v:Val):Prop:=(-9223372036854775808<=v.k/\v.k<=9223372036854775807)/\(-9223372036854775808<=v.n/\v.n<=9223372036854775807)/\v.t.size<=maxLen
def WfC (c:aV):Prop:=wX c.l/\wX c.r
def okV (n:Nat) (v:Val):Bool:=CG v n==0
def SV (n:Nat) (c:aV):Bool:=okV n c.l&&okV n c.r
def nX (h:List aV) (l:List Val):Bool:=l.all (okV h.length)&&h.all (SV h.length)
theorem Gs {w:World} {v:Value} {l:List Val} (hs:Sl aP 3 w v l) {i:Nat} (hi:i<l.length):
 ∃b off cap,v=.slice (some ⟨b,off,none⟩) l.length cap/\b<w.heap.size/\w.cell? ⟨b,off+i*3,none⟩=some (.int .i64 l[i].k)/\w.cell? ⟨b,off+i*3+1,none⟩=some (.int .i64 l[i].n)/\
  w.cell? ⟨b,off+i*3+2,none⟩=some (.string l[i].t):=by
 obtain⟨ao,cap,rfl,_,hc⟩:=hs;obtain⟨b,off,rfl,hb,hc⟩:=hc i _ (List.getElem?_eq_getElem hi);exact⟨b,off,cap,rfl,hb,hc 0 _ rfl,hc 1 _ rfl,hc 2 _ rfl⟩
end Cl
end
end Go.Proofs.YtbcadjgpcfmkfaaGreatDoor
