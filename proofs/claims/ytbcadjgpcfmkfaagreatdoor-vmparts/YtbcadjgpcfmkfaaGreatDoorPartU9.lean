/- FSpec; FFlow; FOwn; FPure; FKeep. -/
import Derived.Deep.Upon
import Derived.Test.YtbcadjgpcfmkfaaGreatDoorPartU8
import Derived.Test.YtbcadjgpcfmkfaaGreatDoorPartU1
import Derived.Test.YtbcadjgpcfmkfaaGreatDoorPartU7
set_option maxHeartbeats 0
set_option maxRecDepth 100000
set_option linter.unusedSimpArgs false
namespace Go.Proofs.YtbcadjgpcfmkfaaGreatDoor
open Go Go.RowKit
section
structure Cz where
 np:Int
 nv:Int
 ins:List In
structure Pz where
 cs:List Cz
 ws:List Bs
structure Val where
 k:Int
 n:Int
 t:Bs
structure aV where
 l:Val
 r:Val
structure Fm where
 fn:Int
 at_:Int
 vars:List Val
 stack:List Val
structure Ag where
 id:Int
 bu:Int
 pg:Pz
 fr:List Fm
 hp:List aV
 fuel:Int
 cells:Int
 hops:Int
def az {α:Type} (f:α->Int):List α->Int
 |[]=>0
 |x::l=>if f x≠0 then f x else az f l
def dO (f:Nat->Int):Nat->Nat->Int
 |0,_=>0
 |n+1,k=>if f k≠0 then f k else dO f n (k+1)
theorem fH {α:Type} (f:α->Int) (l:List α) {k:Nat} {x:α} (h:l[k]?=some x):az f (l.drop k)=if f x≠0 then f x else az f (l.drop (k+1)):=by
 obtain⟨hk,rfl⟩:=List.getElem?_eq_some_iff.1 h;rw[List.drop_eq_getElem_cons hk,az]
theorem gP {α:Type} (f:α->Int) (l:List α) {k:Nat} (h:l.length<=k):az f (l.drop k)=0:=by
 rw[List.drop_eq_nil_of_le h,az]
theorem dw {α:Type} {f:α->Int}:∀{l:List α},az f l=0->∀x∈l,f x=0
 |[],_,x,hx=>by cases hx
 |y::l,h,x,hx=>by
  rw[az] at h;split at h
  ·contradiction
  ·rename_i hy
   rcases List.mem_cons.1 hx with rfl|hx
   ·exact Classical.not_not.1 hy
   ·exact dw h x hx
theorem mX {α:Type} {f:α->Int}:∀{l:List α},(∀x∈l,f x=0)->az f l=0
 |[],_=>rfl
 |y::l,h=>by
  rw[az,if_neg (by rw[h y (by simp)];simp)];exact mX (fun x hx=>h x (by simp[hx]))
theorem qp {α:Type} (f:α->Int):∀(l m:List α),az f (l++m)=if az f l≠0 then az f l else az f m
 |[],m=>by simp[az]
 |y::l,m=>by
  rw[List.cons_append,az,az,qp f l m]
  by_cases h:f y=0
  ·simp[h]
  ·simp[h]
theorem xH {f:Nat->Int}:∀{n k:Nat},(∀j,k<=j->j<k+n->f j=0)->dO f n k=0
 |0,_,_=>rfl
 |n+1,k,h=>by
  rw[dO,if_neg (by rw[h k (Nat.le_refl _) (by omega)];simp)];exact xH (fun j h1 h2=>h j (by omega) (by omega))
theorem ve {f:Nat->Int}:∀{n k:Nat},dO f n k=0->∀j,k<=j->j<k+n->f j=0
 |0,k,_,j,h1,h2=>by omega
 |n+1,k,h,j,h1,h2=>by
  rw[dO] at h;split at h
  ·contradiction
  ·rename_i hy
   by_cases e:j=k
   ·rw[e];exact Classical.not_not.1 hy
   ·exact ve h j (by omega) (by omega)
def Me (p:Pz) (a:Int):Int:=((p.cs[a.toNat]?).map Cz.np).getD 0
def DR (op:Int):Int:=if op=1 then-1073741824 else if op=5 then 1 else 0
def DT (p:Pz) (c:Cz) (op:Int):Int:=
 if op=1 then 1073741824 else if op=2 then p.ws.length-1 else if op=3\/op=4 then c.nv-1 else if op=5 then 5
 else if op=15\/op=16 then c.ins.length-1 else if op=17 then p.cs.length-1 else 0
def bC (p:Pz) (i:In):Int:=if i.op=17 then Me p i.a else 0
def CX (p:Pz) (c:Cz) (i:In):Int:=
 if i.op<1\/19<i.op then 1
 else if i.a<DR i.op\/DT p c i.op<i.a then 3
 else if i.b≠bC p i then 3
 else 0
def iQ (p:Pz) (c:Cz):Int:=if az (CX p c) c.ins≠0 then az (CX p c) c.ins else(aj c.ins).2
def jE (c:Cz):Bool:=decide (c.np<0\/4<c.np\/c.nv<c.np\/8<c.nv\/c.ins.length=0\/200<c.ins.length)
def Nz (c:Cz):Int:=if jE c then 3 else 0
def GN (x:Bs):Int:=if isWord x then 0 else 7
def El (p:Pz):Int:=
 if p.cs.length=0\/5<p.cs.length then 5
 else if 16<p.ws.length then 4
 else if az GN p.ws≠0 then az GN p.ws
 else if Me p 0≠0 then 10
 else az Nz p.cs
def aU (p:Pz):Int:=if El p≠0 then El p else az (iQ p) p.cs
def ah (c:Int) (v:Val):Int:=
 if v.k=0 then(if v.n< -1073741824\/1073741824<v.n then 3 else if v.t.isEmpty then 0 else 2)
 else if v.k=1 then(if 60<v.t.length then 4 else if v.n≠0 then 2 else 0)
 else if v.k=2 then(if v.n<0\/c<=v.n then 6 else if v.t.isEmpty then 0 else 2)
 else 1
def cellC (c:Int) (x:aV):Int:=if ah c x.l≠0 then ah c x.l else ah c x.r
def fq (a:Ag):Int:=
 if a.id<0\/1073741824<a.id\/a.bu<0\/1073741824<a.bu then 3
 else if a.fuel<0\/2000<a.fuel\/a.cells<0\/60<a.cells\/a.hops<0\/12<a.hops then 3
 else if a.fr.length=0\/12<a.fr.length then 5
 else if 60<a.hp.length+a.cells then 4
 else 0
abbrev xI:Cz:=⟨0,0,[]⟩
abbrev Ar:Fm:=⟨0,0,[],[]⟩
abbrev uw:In:=⟨0,0,0⟩
def jh (a:Ag) (k:Nat) (away:Bool):Int×Int:=
 if k+1<a.fr.length then(17,(a.fr.getD (k+1) Ar).fn) else if away then(13,0) else(0,0)
def bN (c:Cz) (n:Nat):Int:=(aj c.ins).1.getD n (-1)
def frameC (p:Pz) (f:Fm) (q:Int×Int):Int:=
 if f.fn<0\/p.cs.length<=f.fn then 3
 else if f.at_<0\/(p.cs.getD f.fn.toNat xI).ins.length<=f.at_\/(f.vars.length:Int)≠(p.cs.getD f.fn.toNat xI).nv then 3
 else if q.1≠0/\(f.at_=0\/bN (p.cs.getD f.fn.toNat xI) (f.at_.toNat-1)=-1\/((p.cs.getD f.fn.toNat xI).ins.getD (f.at_.toNat-1) uw).op≠q.1\/((p.cs.getD f.fn.toNat xI).ins.getD (f.at_.toNat-1) uw).a≠q.2) then 10
 else if(f.stack.length:Int)≠bN (p.cs.getD f.fn.toNat xI) f.at_.toNat-(if q.1≠0 then 1 else 0) then 10
 else 0
def dV (a:Ag) (away:Bool) (k:Nat):Int:=
 if frameC a.pg (a.fr.getD k Ar) (jh a k away)≠0 then frameC a.pg (a.fr.getD k Ar) (jh a k away)
 else if az (ah a.hp.length) (a.fr.getD k Ar).vars≠0 then az (ah a.hp.length) (a.fr.getD k Ar).vars
 else az (ah a.hp.length) (a.fr.getD k Ar).stack
def dx (a:Ag) (away:Bool):Int:=
 if aU a.pg≠0 then aU a.pg
 else if fq a≠0 then fq a
 else if dO (dV a away) a.fr.length 0≠0 then dO (dV a away) a.fr.length 0
 else az (cellC a.hp.length) a.hp
abbrev i64 (n:Int):Prop:=-9223372036854775808<=n/\n<=9223372036854775807
structure GQ (w:World) (r:jQ) (x:Cz):Prop where
 np:r.np=x.np
 nv:r.nv=x.nv
 s:Sl encI 3 w r.s.v x.ins
structure iq (w:World) (sc sw:ai) (p:Pz):Prop where
 cs:∃rs,Sl bZ 3 w sc.v rs/\Each (GQ w) rs p.cs
 ws:Sl jP 1 w sw.v p.ws
theorem GQ.fr {w w':World} {r:jQ} {x:Cz} (h:GQ w r x) (hf:Fr nothing w w'):GQ w' r x:=⟨h.np,h.nv,h.s.fr hf (fun _ _=>id)⟩
theorem iq.fr {w w':World} {sc sw:ai} {p:Pz} (h:iq w sc sw p) (hf:Fr nothing w w'):iq w' sc sw p:=by
 obtain⟨⟨rs,h1,h2⟩,h3⟩:=h;exact⟨⟨rs,h1.fr hf (fun _ _=>id),h2.1,fun i r x e1 e2=>(h2.2 i r x e1 e2).fr hf⟩,h3.fr hf (fun _ _=>id)⟩
def aP (v:Val):List Value:=[.int .i64 v.k,.int .i64 v.n,.string (bs v.t)]
theorem aK (v:Val):(aP v).length=3:=rfl
abbrev vv (v:Val):Value:=.agg #[.int .i64 v.k,.int .i64 v.n,.string (bs v.t)]
def jv (c:aV):List Value:=aP c.l++aP c.r
theorem bY (c:aV):(jv c).length=6:=rfl
structure aQ where
 fn:Int
 at_:Int
 v:ai
 s:ai
def lU (r:aQ):List Value:=[.int .i64 r.fn,.int .i64 r.at_,.slice r.v.a r.v.n r.v.c,.slice r.s.a r.s.n r.s.c]
theorem dA (r:aQ):(lU r).length=4:=rfl
structure CY (w:World) (r:aQ) (x:Fm):Prop where
 fn:r.fn=x.fn
 at_:r.at_=x.at_
 v:Sl aP 3 w r.v.v x.vars
 s:Sl aP 3 w r.s.v x.stack
theorem CY.fr {w w':World} {r:aQ} {x:Fm} (h:CY w r x) (hf:Fr nothing w w'):CY w' r x:=⟨h.fn,h.at_,h.v.fr hf (fun _ _=>id),h.s.fr hf (fun _ _=>id)⟩
structure iK (w:World) (sc sw sf sh:ai) (a:Ag):Prop where
 pg:iq w sc sw a.pg
 fr:∃rs,Sl lU 4 w sf.v rs/\Each (CY w) rs a.fr
 hp:Sl jv 6 w sh.v a.hp
theorem iK.fr' {w w':World} {sc sw sf sh:ai} {a:Ag} (h:iK w sc sw sf sh a) (hf:Fr nothing w w'):iK w' sc sw sf sh a:=by
 obtain⟨h0,⟨rs,h1,h2⟩,h3⟩:=h;exact⟨h0.fr hf,⟨rs,h1.fr hf (fun _ _=>id),h2.1,fun i r x e1 e2=>(h2.2 i r x e1 e2).fr hf⟩,h3.fr hf (fun _ _=>id)⟩
structure WfI (i:In):Prop where
 op:i64 i.op
 a:i64 i.a
 b:i64 i.b
structure WfZ (p:Pz):Prop where
 c:∀c∈p.cs,i64 c.np/\i64 c.nv/\∀i∈c.ins,WfI i
 w:∀t∈p.ws,t.length<=9223372036854775807
structure wX (v:Val):Prop where
 k:i64 v.k
 n:i64 v.n
 t:v.t.length<=9223372036854775807
structure WfM (f:Fm):Prop where
 fn:i64 f.fn
 at_:i64 f.at_
 v:∀v∈f.vars,wX v
 s:∀v∈f.stack,wX v
structure YV (a:Ag):Prop where
 pg:WfZ a.pg
 fr:∀f∈a.fr,WfM f
 hp:∀c∈a.hp,wX c.l/\wX c.r
 n:i64 a.id/\i64 a.bu/\i64 a.fuel/\i64 a.cells/\i64 a.hops
 l:a.hp.length<=140737488355328/\a.fr.length<=140737488355328
theorem kr {w:World} {s:ai} {rs:List Val} (h:Sl aP 3 w s.v rs) {i:Nat} {r:Val} (hi:rs[i]?=some r):∃b off,s.a=some ⟨b,off,none⟩/\b<w.heap.size/\w.cell? ⟨b,off+i*3,none⟩=some (.int .i64 r.k)/\w.cell? ⟨b,off+i*3+1,none⟩=some (.int .i64 r.n)/\w.cell? ⟨b,off+i*3+2,none⟩=some (.string (bs r.t)):=by
 obtain⟨ao,cap,he,_,hc⟩:=h;obtain⟨b,off,rfl,hb,hcell⟩:=hc i r hi;simp only[Value.slice.injEq] at he;exact⟨b,off,he.1,hb,hcell 0 _ rfl,hcell 1 _ rfl,hcell 2 _ rfl⟩
theorem jJ {w:World} {s:ai} {rs:List aQ} (h:Sl lU 4 w s.v rs) {i:Nat} {r:aQ} (hi:rs[i]?=some r):∃b off,s.a=some ⟨b,off,none⟩/\b<w.heap.size/\w.cell? ⟨b,off+i*4,none⟩=some (.int .i64 r.fn)/\w.cell? ⟨b,off+i*4+1,none⟩=some (.int .i64 r.at_)/\w.cell? ⟨b,off+i*4+2,none⟩=some (.slice r.v.a r.v.n r.v.c)/\w.cell? ⟨b,off+i*4+3,none⟩=some (.slice r.s.a r.s.n r.s.c):=by
 obtain⟨ao,cap,he,_,hc⟩:=h;obtain⟨b,off,rfl,hb,hcell⟩:=hc i r hi;simp only[Value.slice.injEq] at he;exact⟨b,off,he.1,hb,hcell 0 _ rfl,hcell 1 _ rfl,hcell 2 _ rfl,hcell 3 _ rfl⟩
theorem oq {w:World} {s:ai} {rs:List aV} (h:Sl jv 6 w s.v rs) {i:Nat} {r:aV} (hi:rs[i]?=some r):∃b off,s.a=some ⟨b,off,none⟩/\b<w.heap.size/\w.cell? ⟨b,off+i*6,none⟩=some (.int .i64 r.l.k)/\w.cell? ⟨b,off+i*6+1,none⟩=some (.int .i64 r.l.n)/\w.cell? ⟨b,off+i*6+2,none⟩=some (.string (bs r.l.t))/\w.cell? ⟨b,off+i*6+3,none⟩=some (.int .i64 r.r.k)/\w.cell? ⟨b,off+i*6+4,none⟩=some (.int .i64 r.r.n)/\w.cell? ⟨b,off+i*6+5,none⟩=some (.string (bs r.r.t)):=by
 obtain⟨ao,cap,he,_,hc⟩:=h;obtain⟨b,off,rfl,hb,hcell⟩:=hc i r hi;simp only[Value.slice.injEq] at he;exact⟨b,off,he.1,hb,hcell 0 _ rfl,hcell 1 _ rfl,hcell 2 _ rfl,hcell 3 _ rfl,hcell 4 _ rfl,hcell 5 _ rfl⟩
end
section
theorem lV (i:In):0<=(aC i).2/\(aC i).2<=1:=by
 unfold aC
 by_cases h:i.op=17
 ·rw[if_pos h];exact⟨Int.one_nonneg,Int.le_refl 1⟩
 ·rw[if_neg h];generalize i.op=k;unfold mU;simp only[List.find?]
  repeat' split
  all_goals (refine⟨?_,?_⟩<;>decide)
theorem xJ {i:In} {p m:Int}:∀z∈jg i p m,z.2=m:=by
 intro z hz;unfold jg at hz;rcases List.mem_append.1 hz with hz|hz
 ·split at hz
  ·rw[List.mem_singleton.1 hz]
  ·cases hz
 ·split at hz
  ·rw[List.mem_singleton.1 hz]
  ·cases hz
theorem uy (ins:List In):∀(f:Nat) (h:List Int) (q:List (Int×Int)),(∀x∈h,-1<=x/\x<=16)->(∀z∈q,0<=z.2/\z.2<=16)->∀x∈(vM ins f h q).1,-1<=x/\x<=16
 |0,h,q,h1,_=>by rw[vM];exact h1
 |f+1,h,[],h1,_=>by rw[vM];exact h1
 |f+1,h,(p,n)::q,h1,h2=>by
  rw[vM];split
  ·intro x hx;cases hx
  split
  ·intro x hx;cases hx
  split
  ·exact uy ins f h q h1 (fun z hz=>h2 z (by simp[hz]))
  split
  ·intro x hx;cases hx
  rename_i h4
  split
  ·intro x hx;cases hx
  rename_i h5
  have hn:=h2 (p,n) (by simp);simp only at hn;have hs:=lV (ins.getD p.toNat ⟨0,0,0⟩);refine uy ins f _ _ (fun x hx=>?_) (fun z hz=>?_)
  ·rcases List.mem_or_eq_of_mem_set hx with hx|hx
   ·exact h1 x hx
   ·rw[hx];omega
  ·rcases List.mem_append.1 hz with hz|hz
   ·exact h2 z (by simp[hz])
   ·rw[xJ z hz];omega
theorem jF (ins:List In):∀x∈(aj ins).1,-1<=x/\x<=16:=by
 refine uy ins _ _ _ (fun x hx=>?_) (fun z hz=>?_)
 ·rw[(List.mem_replicate.1 hx).2];omega
 ·rw[List.mem_singleton.1 hz];exact⟨by decide,by decide⟩
end
section
section
variable {α : Type} {enc : α → List Value} {T Ts sz bytes base : Nat} {z : Value}
structure Own (enc:α->List Value) (T sz base:Nat) (q:ai) (l:List α) (w:World):Prop where
 n:q.n=l.length
 row:w.ownsRow base T sz q.v l.length (l.flatMap enc)
theorem Own.sl (he:∀x,(enc x).length=sz) {q:ai} {l:List α} {w:World} (h:Own enc T sz base q l w):Sl enc sz w q.v l:=eX he h.row
theorem Own.fr {q:ai} {l:List α} {w w':World} {S:Nat->Prop} (h:Own enc T sz base q l w) (hf:Fr S w w') (hs:∀b,q.v.ownBlock=some b->¬S b):Own enc T sz base q l w':=⟨h.n,aI h.row hf hs⟩
theorem Own.new {q:ai} {l:List α} {w w':World} (h:Own enc T sz base q l w) (hf:Fr nothing w w'):Own enc T sz base q l w':=h.fr hf (fun _ _=>id)
theorem Own.lt {q:ai} {l:List α} {w:World} (h:Own enc T sz base q l w) {b:Nat} (hb:q.v.ownBlock=some b):base<=b/\b<w.heap.size:=h.row.lt b hb
theorem Own.nil (enc:α->List Value) (T sz base:Nat) (w:World):Own enc T sz base aN [] w:=⟨rfl,World.ownsRow_nil _ _ _ _⟩
theorem Own.lit (w:World) (cs:Array Value) (l:List α) (hc:cs.toList=l.flatMap enc) (he:∀x,(enc x).length=sz) (hb:base<=w.heap.size) (hl:l.length<=maxLen):Own enc T sz base ⟨some ⟨w.heap.size,0,none⟩,l.length,l.length⟩ l (w.alloc (.cells cs T)):=by
 refine⟨rfl,?_⟩
 have hs:cs.size=l.length*sz:=by rw[<-Array.length_toList,hc];exact bK enc sz he l
 have:=World.ownsRow_lit (e:=T) w cs l.length (size:=sz) (base:=base) hb hl hs;rw[hc] at this;exact this
theorem uz {w:World} {x:ai} {ys:List α} (he:∀x,(enc x).length=sz) (hsz:0<sz) (hs:Sl enc sz w x.v ys):∀j u,(ys.flatMap enc)[j]?=some u->∃ad,x.a=some ad/\w.cell? (ad.add j)=some u:=by
 intro j u hj;have hfl:(ys.flatMap enc).length=ys.length*sz:=bK enc sz he ys;have hjl:j<ys.length*sz:=by rw[<-hfl];exact(List.getElem?_eq_some_iff.1 hj).1
 obtain⟨ao,cap,he',_,hc⟩:=hs;simp only[Value.slice.injEq] at he';obtain⟨e1,_,_⟩:=he';have hi:j / sz<ys.length:=(Nat.div_lt_iff_lt_mul hsz).2 hjl;obtain⟨b,off,rfl,_,hcell⟩:=hc (j / sz) _ (List.getElem?_eq_getElem hi);refine⟨_,e1,?_⟩
 have hmod:j%sz<sz:=Nat.mod_lt _ hsz;have hdm:j / sz*sz+j%sz=j:=Nat.div_add_mod' j sz;have h3:(enc ys[j / sz])[j%sz]?=some u:=by
  have hk:∃u',(enc ys[j / sz])[j%sz]?=some u':=⟨_,List.getElem?_eq_getElem (by rw[he];exact hmod)⟩
  obtain⟨u',hu'⟩:=hk;have:=flat_get enc sz he ys (j / sz) _ (j%sz) u' (List.getElem?_eq_getElem hi) hu';rw[hdm,hj] at this;rw[hu',this]
 rw[add_eq,<-hcell (j%sz) u h3]
 congr 2
 omega
theorem Own.app (hu:Tryz.prog.underlying Ts=some (.slice T)) (Au:(Tryz.prog.info? T).map (fun i=>(i.zero,i.size,i.bytes))=some (some z,sz,bytes)) (hzs:z.cells.size=sz) (hsz:0<sz) (he:∀x,(enc x).length=sz) (h1:∀x,∀u∈enc x,u.oneCell'=true)
 {q x:ai} {xs ys:List α} {w:World} (h:Own enc T sz base q xs w) (hs:Sl enc sz w x.v ys) (hb:base<=w.heap.size) (hl:xs.length+ys.length<=maxLen) (hby:(xs.length+ys.length)*bytes<=140737488355328):
 ∃(q':ai) (w':World),(Builtin.append_ #[Ts,Ts] Ts #[.slice q.a q.n q.c,.slice x.a x.n x.c]).run Tryz.prog w=.ok (.slice q'.a q'.n q'.c) w'/\Own enc T sz base q' (xs++ys) w'/\Fr (fun k=>q.v.ownBlock=some k) w w'/\(∀b,q'.v.ownBlock=some b->q.v.ownBlock=some b\/w.heap.size<=b):=by
 obtain⟨j0,hj0,hy0,hy1,hy2⟩:=info_parts Au;obtain⟨hn,hm⟩:=ay hs;obtain⟨xa,xn,xc⟩:=x;simp only at hn;subst hn;rcases Nat.eq_zero_or_pos ys.length with h0|hp
 ·have e:ys=[]:=List.length_eq_zero_iff.1 h0;subst e;have hsrc:Src Tryz.prog j0.size Ts (.slice xa 0 xc) 0 [] w:=by
   cases xa with
   |none=>exact Src.ofNil w hu xc
   |some ad=>exact Src.ofSlice w hu ad 0 xc [] (by simp) (by simp) (by simp)
  have hle:q.n<=q.c:=by
   rcases h.row.2 with⟨e,_⟩|⟨g,cap,cur,e,_,_,h2,_⟩
   ·simp only[ai.v,Value.slice.injEq] at e;omega
   ·simp only[ai.v,Value.slice.injEq] at e;have:=h.n;omega
  refine⟨q,w,run_append_nothing w Ts Ts Ts T j0 hu hj0 q.a q.n q.c hle (.slice xa 0 xc) hsrc,by rw[List.append_nil];exact h,Fr.refl _ _,fun b hb=> .inl hb⟩
 ·have hfl:(ys.flatMap enc).length=ys.length*sz:=bK enc sz he ys;have hget:=uz he hsz hs;have hpos:0<(ys.flatMap enc).length:=by rw[hfl];exact Nat.mul_pos hp hsz
  obtain⟨ad,rfl,_⟩:=hget 0 _ (List.getElem?_eq_getElem hpos);obtain⟨g,cap,w',hr,h2,h3,h4,h5⟩:=run_append_lies (P:=Tryz.prog) w Ts Ts base T j0 _ sz bytes hu hj0 hy0 hy1 hy2 hzs hsz q.v xs.length _ h.row ad ys.length xc (ys.flatMap enc) hfl (fun j u hj=>by
   obtain⟨WQ,e1,e2⟩:=hget j u hj;obtain rfl:ad=WQ:=by simpa using e1
   exact e2) (fun u hu=>by
   obtain⟨x,_,hx⟩:=List.mem_flatMap.1 hu;exact h1 x u hx) hp hl hby hb _ rfl
  refine⟨⟨some ⟨g,0,none⟩,xs.length+ys.length,cap⟩,w',hr,⟨by simp,by simpa using h2⟩,(Fr.refl _ w).grown h3 (fun k hk=> .inl hk),fun b hb'=>?_⟩
  obtain rfl:g=b:=Option.some.inj hb';exact h4.imp id (fun e=>by omega)
theorem xK (w:World) (cs:Array Value) (x:α) (hc:cs.toList=enc x):Sl enc sz (w.alloc (.cells cs T)) (ai.v ⟨some ⟨w.heap.size,0,none⟩,1,1⟩) [x]:=by
 refine⟨some ⟨w.heap.size,0,none⟩,1,rfl,by unfold maxLen;simp,fun i y hi=>⟨w.heap.size,0,rfl,by simp,fun j u hj=>?_⟩⟩
 have hi0:i=0:=by have:=(List.getElem?_eq_some_iff.1 hi).1;simp at this;omega
 subst hi0;obtain rfl:x=y:=by simpa using hi
 have hm:=(af (Fr.refl nothing (w.alloc (.cells cs T))) id).1 j;have e1:(0:Nat)+0*sz+j=j:=by omega
 rw[e1,hm,<-hj,<-hc,Array.getElem?_toList]
end
end
section
def WR (p:Int×Int):List Value:=[.int .i64 p.1,.int .i64 p.2]
theorem Em (p:Int×Int):(WR p).length=2:=rfl
theorem vU (ins:List In):∀(f:Nat) (h:List Int) (q:List (Int×Int)),(vM ins f h q).2=0->(vM ins f h q).1.length=h.length
 |0,h,q,_=>by rw[vM]
 |f+1,h,[],_=>by rw[vM]
 |f+1,h,(p,n)::q,e=>by
  rw[vM] at e⊢;split at e
  ·cases e
  rename_i h1
  rw[if_neg h1];split at e
  ·cases e
  rename_i h2
  rw[if_neg h2];split at e
  ·rename_i h3
   rw[if_pos h3];exact vU ins f h q e
  rename_i h3
  rw[if_neg h3];split at e
  ·cases e
  rename_i h4
  rw[if_neg h4];split at e
  ·cases e
  rename_i h5
  rw[if_neg h5];rw[vU ins f _ _ e,List.length_set]
theorem En {ins:List In} (h:(aj ins).2=0):(aj ins).1.length=ins.length:=by
 unfold aj at h⊢;rw[vU ins _ _ _ h,List.length_replicate]
theorem Oy {w:World} {s:ai} {l:List (Int×Int)} (h:Sl WR 2 w s.v l) {i:Nat} {z:Int×Int} (hi:l[i]?=some z):∃b off,s.a=some ⟨b,off,none⟩/\b<w.heap.size/\w.cell? ⟨b,off+i*2,none⟩=some (.int .i64 z.1)/\w.cell? ⟨b,off+i*2+1,none⟩=some (.int .i64 z.2):=by
 obtain⟨ao,cap,he,_,hc⟩:=h;obtain⟨b,off,rfl,hb,hcell⟩:=hc i z hi;simp only[Value.slice.injEq] at he;exact⟨b,off,he.1,hb,hcell 0 _ rfl,hcell 1 _ rfl⟩
theorem iR {p:Pz} (h:El p=0):p.cs.length≠0/\p.cs.length<=5/\p.ws.length<=16/\(∀t∈p.ws,isWord t=true)/\Me p 0=0/\∀c∈p.cs,0<=c.np/\c.np<=4/\c.np<=c.nv/\c.nv<=8/\c.ins.length≠0/\c.ins.length<=200:=by
 unfold El at h;split at h
 ·cases h
 rename_i h1
 split at h
 ·cases h
 rename_i h2
 split at h
 ·rename_i h3;exact absurd h h3
 rename_i h3
 split at h
 ·cases h
 rename_i h4
 refine⟨by omega,by omega,by omega,fun t ht=>?_,Classical.not_not.1 h4,fun c hc=>?_⟩
 ·have:=dw (Classical.not_not.1 h3) t ht;unfold GN at this;split at this
  ·assumption
  ·cases this
 ·have:=dw h c hc;unfold Nz jE at this;split at this
  ·cases this
  ·rename_i h5
   simp only[decide_eq_true_eq] at h5;omega
theorem WT {α:Type} {enc:α->List Value} {sz:Nat} {w:World} {s:ai} {l:List α} (h:Sl enc sz w s.v l) (hl:l≠ []):∀b,s.v.ownBlock=some b->b<w.heap.size:=by
 intro b hb;obtain⟨ao,cap,he,_,hc⟩:=h;cases l with
 |nil=>exact absurd rfl hl
 |cons x l=>
  obtain⟨b',off,rfl,hlt,_⟩:=hc 0 x rfl;rw[he] at hb;obtain rfl:b'=b:=Option.some.inj hb;exact hlt
abbrev gH (a:Ag) (sc sw sf sh:ai):Array Value:=#[.int .i64 a.id,.int .i64 a.bu,.slice sc.a sc.n sc.c,.slice sw.a sw.n sw.c,.slice sf.a sf.n sf.c,.slice sh.a sh.n sh.c,.int .i64 a.fuel,.int .i64 a.cells,.int .i64 a.hops]
theorem abN {w:World} {b:Nat} {u0 u1:Value} (v0 v1:Value) (m0:w.cell? ⟨b,0,none⟩=some u0) (m1:w.cell? ⟨b,1,none⟩=some u1):
 ∃w5,(w.setCell ⟨b,0,none⟩ v0).setCell ⟨b,1,none⟩ v1=w5/\w5.cell? ⟨b,0,none⟩=some v0/\w5.cell? ⟨b,1,none⟩=some v1/\Fr (fun k=>k=b) w w5:=by
 have h1:=World.cell?_setCell_same w ⟨b,0,none⟩ v0 m0;have h2:(w.setCell ⟨b,0,none⟩ v0).cell? ⟨b,1,none⟩=some u1:=(World.cell?_setCell_other w ⟨b,0,none⟩ ⟨b,1,none⟩ _ (by simp)).trans m1;refine⟨_,rfl,?_,World.cell?_setCell_same _ _ _ h2,((Fr.refl (fun k=>k=b) w).setCell (p:=⟨b,0,none⟩) (.inl rfl) _).setCell (p:=⟨b,1,none⟩) (.inl rfl) _⟩
 exact(World.cell?_setCell_other _ ⟨b,1,none⟩ ⟨b,0,none⟩ _ (by simp)).trans h1
theorem WU {w:World} {b:Nat} {u0 u1 u2:Value} (v0 v1 v2:Value) (m0:w.cell? ⟨b,0,none⟩=some u0) (m1:w.cell? ⟨b,1,none⟩=some u1) (m2:w.cell? ⟨b,2,none⟩=some u2):
 ∃w5,((w.setCell ⟨b,0,none⟩ v0).setCell ⟨b,1,none⟩ v1).setCell ⟨b,2,none⟩ v2=w5/\w5.cell? ⟨b,0,none⟩=some v0/\w5.cell? ⟨b,1,none⟩=some v1/\w5.cell? ⟨b,2,none⟩=some v2/\Fr (fun k=>k=b) w w5:=by
 obtain⟨w4,h1,h2,h3,h4⟩:=abN v0 v1 m0 m1;have h5:w4.cell? ⟨b,2,none⟩=some u2:=by
  rw[<-h1,World.cell?_setCell_other _ ⟨b,1,none⟩ ⟨b,2,none⟩ _ (by simp),World.cell?_setCell_other _ ⟨b,0,none⟩ ⟨b,2,none⟩ _ (by simp)];exact m2
 refine⟨_,rfl,?_,?_,?_,?_⟩
 ·rw[h1,World.cell?_setCell_other _ ⟨b,2,none⟩ ⟨b,0,none⟩ _ (by simp)];exact h2
 ·rw[h1,World.cell?_setCell_other _ ⟨b,2,none⟩ ⟨b,1,none⟩ _ (by simp)];exact h3
 ·rw[h1];exact World.cell?_setCell_same _ _ _ h5
 ·rw[h1];exact h4.setCell (p:=⟨b,2,none⟩) (.inl rfl) _
structure ZT (p:Pz):Prop where
 h:∀c∈p.cs,(aj c.ins).2=0/\c.ins.length<=200/\0<=c.nv/\c.nv<=8
theorem Tx {p:Pz} (h:aU p=0):ZT p:=by
 unfold aU at h;split at h
 ·rename_i h1;exact absurd h h1
 rename_i h1
 have hz:=iR (Classical.not_not.1 h1);refine⟨fun c hc=>?_⟩
 have hb:=hz.2.2.2.2.2 c hc;refine⟨?_,hb.2.2.2.2.2,by omega,by omega⟩
 have hc0:=dw h c hc;unfold iQ at hc0;split at hc0
 ·rename_i h2;exact absurd hc0 h2
 ·exact hc0
theorem Eo {f:Nat->Int} {n k:Nat} (hk:k<n):dO f (n-k) k=if f k≠0 then f k else dO f (n-(k+1)) (k+1):=by
 obtain⟨m,hm⟩:∃m,n-k=m+1:=⟨n-k-1,by omega⟩
 rw[hm,dO,show n-(k+1)=m by omega]
end
section
abbrev v0:Val:=⟨0,0,[]⟩
theorem xL (ins:List In):∀(f:Nat) (h:List Int) (q:List (Int×Int)) (i:Nat) (x:Int),(vM ins f h q).2=0->h[i]?=some x->0<=x->(vM ins f h q).1[i]?=some x
 |0,h,q,i,x,_,hi,_=>by rw[vM];exact hi
 |f+1,h,[],i,x,_,hi,_=>by rw[vM];exact hi
 |f+1,h,(p,n)::q,i,x,e,hi,hx=>by
  rw[vM] at e⊢;split at e
  ·cases e
  rename_i h1
  rw[if_neg h1];split at e
  ·cases e
  rename_i h2
  rw[if_neg h2];split at e
  ·rename_i h3
   rw[if_pos h3];exact xL ins f h q i x e hi hx
  rename_i h3
  rw[if_neg h3];split at e
  ·cases e
  rename_i h4
  rw[if_neg h4];split at e
  ·cases e
  rename_i h5
  rw[if_neg h5];refine xL ins f _ _ i x e ?_ hx
  by_cases hp:p.toNat=i
  ·exfalso
   apply h3
   rw[hp];simp[List.getD,hi,hx]
  ·rw[List.getElem?_set_ne hp];exact hi
theorem Av {ins:List In} (h:(aj ins).2=0) (hl:ins.length≠0):(aj ins).1[0]?=some 0:=by
 unfold aj at h⊢;generalize hh:List.replicate ins.length (-1:Int)=h0 at h⊢;have hlen:h0.length=ins.length:=by rw[<-hh,List.length_replicate]
 have hg:h0.getD 0 0=-1:=by
  rw[<-hh];have:(List.replicate ins.length (-1:Int))[0]?=some (-1):=by rw[List.getElem?_replicate,if_pos (by omega)]
  simp[List.getD,this]
 rw[show 2*ins.length+2=(2*ins.length+1)+1 by omega] at h⊢;rw[vM] at h⊢;have e1:¬((0:Int)<0\/(h0.length:Int)<=0):=by omega
 rw[if_neg e1] at h⊢;simp only[Int.toNat_zero] at h⊢;rw[hg] at h⊢;rw[if_neg (by omega),if_neg (by omega)] at h⊢;split at h
 ·cases h
 rename_i h4
 rw[if_neg h4];split at h
 ·cases h
 rename_i h5
 rw[if_neg h5];exact xL ins _ _ _ 0 0 h (by rw[List.getElem?_set_self (by omega)]) (Int.le_refl 0)
theorem lW (p:Pz) (f:Fm) (q:Int×Int) {c:Cz} (h:p.cs.getD f.fn.toNat xI=c):frameC p f q=
 if f.fn<0\/p.cs.length<=f.fn then 3
 else if f.at_<0\/c.ins.length<=f.at_\/(f.vars.length:Int)≠c.nv then 3
 else if q.1≠0/\(f.at_=0\/bN c (f.at_.toNat-1)=-1\/(c.ins.getD (f.at_.toNat-1) uw).op≠q.1\/(c.ins.getD (f.at_.toNat-1) uw).a≠q.2) then 10
 else if(f.stack.length:Int)≠bN c f.at_.toNat-(if q.1≠0 then 1 else 0) then 10
 else 0:=by subst h;rfl
end
end Go.Proofs.YtbcadjgpcfmkfaaGreatDoor
