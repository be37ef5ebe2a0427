/- VH0. -/
import Derived.Laws.OwnMore
import Derived.Test.YtbcadjgpcfmkfaaGreatDoorPartU7
import Derived.Test.YtbcadjgpcfmkfaaGreatDoorPartU1
set_option maxHeartbeats 0
set_option maxRecDepth 100000
set_option linter.unusedSimpArgs false
namespace Go.Proofs.YtbcadjgpcfmkfaaGreatDoor
open Go Go.RowKit
section
theorem Ox (P:Nat->Prop):∀n,P n->∃m,P m/\∀k,P k->m<=k:=by
 intro n
 induction n using Nat.strongRecOn with
 |ind n ih=>
  intro hn
  by_cases h:∃k,k<n/\P k
  ·obtain⟨k,h1,h2⟩:=h;exact ih k h1 h2
  ·refine⟨n,hn,fun k hk=>?_⟩
   apply Classical.byContradiction
   intro hlt;exact h ⟨k,by omega,hk⟩
open Classical in
noncomputable def least (P:Nat->Prop):Nat:=if h:∃m,P m/\∀k,P k->m<=k then h.choose else 0
theorem xG {P:Nat->Prop} (h:∃n,P n):P (least P)/\∀k,P k->least P<=k:=by
 obtain⟨n,hn⟩:=h;have h:=Ox P n hn;unfold least;rw[dif_pos h];exact h.choose_spec
theorem om {P:Nat->Prop} {m k:Nat} (h:P m) (hk:m<k):least P<k:=Nat.lt_of_le_of_lt ((xG ⟨m,h⟩).2 m h) hk
def jg (i:In) (p m:Int):List (Int×Int):=(if i.op≠15/\i.op≠18 then[(p+1,m)] else[])++(if i.op=15\/i.op=16 then[(i.a,m)] else[])
def vM (ins:List In):Nat->List Int->List (Int×Int)->List Int×Int
 |0,h,_=>(h,0)
 |_+1,h,[]=>(h,0)
 |f+1,h,(p,n)::q=>
  if p<0\/h.length<=p then([],8)
  else if 0<=h.getD p.toNat 0/\h.getD p.toNat 0≠n then([],10)
  else if 0<=h.getD p.toNat 0 then vM ins f h q
  else if n<(aC (ins.getD p.toNat ⟨0,0,0⟩)).1\/((ins.getD p.toNat ⟨0,0,0⟩).op=18/\1<n) then([],10)
  else if 16<n-(aC (ins.getD p.toNat ⟨0,0,0⟩)).1+(aC (ins.getD p.toNat ⟨0,0,0⟩)).2 then([],4)
  else vM ins f (h.set p.toNat n) (q++jg (ins.getD p.toNat ⟨0,0,0⟩) p (n-(aC (ins.getD p.toNat ⟨0,0,0⟩)).1+(aC (ins.getD p.toNat ⟨0,0,0⟩)).2))
def aj (ins:List In):List Int×Int:=vM ins (2*ins.length+2) (List.replicate ins.length (-1)) [(0,0)]
def rZ (h:List Int):Nat:=(h.filter (fun x=>decide (x<0))).length
theorem uq:∀(h:List Int) (i:Nat) (x n:Int),h[i]?=some x->x<0->0<=n->rZ (h.set i n)+1=rZ h
 |[],i,x,n,hi,_,_=>by simp at hi
 |y::h,0,x,n,hi,hx,hn=>by
  simp at hi
  subst hi;have h1:¬n<0:=by omega
  simp[rZ,hx,h1]
 |y::h,i+1,x,n,hi,hx,hn=>by
  have ih:=uq h i x n (by simpa using hi) hx hn;unfold rZ at ih⊢;rw[List.set_cons_succ,List.filter_cons,List.filter_cons]
  by_cases hy:y<0
  ·simp only[hy,decide_true,if_true,List.length_cons];omega
  ·simp only[hy,decide_false,Bool.false_eq_true,if_false];omega
theorem Ei (h:List Int):rZ h<=h.length:=List.length_filter_le _ _
theorem Br (i:In) (hb:i.op=17->0<=i.b):0<=(aC i).1/\0<=(aC i).2/\(aC i).2<=1:=by
 unfold aC
 by_cases h:i.op=17
 ·rw[if_pos h];exact⟨hb h,Int.one_nonneg,Int.le_refl 1⟩
 ·rw[if_neg h];generalize i.op=k;unfold mU;simp only[List.find?]
  repeat' split
  all_goals (refine⟨?_,?_,?_⟩<;>decide)
def encZ (z:Int):List Value:=[.int .i64 z]
theorem Ej (z:Int):(encZ z).length=1:=rfl
structure oo (base:Nat) (q:ai) (l:List Int) (w:World):Prop where
 n:q.n=l.length
 row:w.ownsRow base 3 1 q.v l.length (l.flatMap encZ)
theorem oo.sl {base:Nat} {q:ai} {l:List Int} {w:World} (h:oo base q l w):Sl encZ 1 w q.v l:=eX Ej h.row
theorem oo.fr {base:Nat} {q:ai} {l:List Int} {w w':World} {S:Nat->Prop} (h:oo base q l w) (hf:Fr S w w') (hs:∀b,q.v.ownBlock=some b->¬S b):oo base q l w':=⟨h.n,aI h.row hf hs⟩
theorem oo.lt {base:Nat} {q:ai} {l:List Int} {w:World} (h:oo base q l w) {b:Nat} (hb:q.v.ownBlock=some b):base<=b/\b<w.heap.size:=h.row.lt b hb
theorem KL:(Tryz.prog.info? 3).map (fun i=>(i.zero,i.size,i.bytes))=some (some (.int .i64 0),1,8):=by kernel_rfl
abbrev lS (z:Int):Obj:=.cells #[.int .i64 z] 3
theorem oo.lit (w:World) (z:Int) {base:Nat} (hb:base<=w.heap.size):oo base ⟨some ⟨w.heap.size,0,none⟩,1,1⟩ [z] (w.alloc (lS z)):=
 ⟨rfl,World.ownsRow_lit (e:=3) w #[.int .i64 z] 1 (size:=1) (base:=base) hb (by unfold maxLen;omega) rfl⟩
theorem oo.app {base:Nat} {q:ai} {l:List Int} {w:World} (h:oo base q l w) (z:Int) (hb:base<=w.heap.size) (hl:l.length<=1000000):
 ∃(q':ai) (w':World),(Builtin.append_ #[92,92] 92 #[.slice q.a q.n q.c,.slice (some ⟨w.heap.size,0,none⟩) 1 1]).run Tryz.prog (w.alloc (lS z))=.ok (.slice q'.a q'.n q'.c) w'/\oo base q' (l++ [z]) w'/\Fr (fun k=>q.v.ownBlock=some k) w w'/\(∀b,q'.v.ownBlock=some b->q.v.ownBlock=some b\/w.heap.size<b):=by
 obtain⟨j0,hj0,hy0,hy1,hy2⟩:=info_parts KL;have FL:Fr nothing w (w.alloc (lS z)):=(Fr.refl _ _).alloc _;have h1:=h.fr FL (fun _ _=>id);have hm:=af (Fr.refl nothing (w.alloc (lS z))) id;have hsz:(w.alloc (lS z)).heap.size=w.heap.size+1:=by simp
 obtain⟨g,cap,w',hr,h2,h3,h4,h5⟩:=run_append_lies (P:=Tryz.prog) (w.alloc (lS z)) 92 92 base 3 j0 _ 1 8 Tryz.underlying92 hj0 hy0 hy1 hy2 rfl (by decide) q.v l.length _ h1.row ⟨w.heap.size,0,none⟩ 1 1 (encZ z) rfl (fun j u hj=>by
  cases j with
  |zero=>simp[encZ] at hj;subst hj;exact hm.1 0
  |succ j=>simp[encZ] at hj) (fun u hu=>by
  simp only[encZ,List.mem_cons,List.not_mem_nil,or_false] at hu;subst hu;rfl) (by decide) (by unfold maxLen;omega) (by omega) (Nat.le_trans hb FL.size) _ rfl
 refine⟨⟨some ⟨g,0,none⟩,l.length+1,cap⟩,w',hr,⟨by simp,by simpa[List.flatMap_append] using h2⟩,(FL.mono (fun _ _ e=>e.elim)).trans ((Fr.refl _ _).grown h3 (fun k hk=> .inl hk)),fun b hb'=>?_⟩
 obtain rfl:g=b:=Option.some.inj hb';exact h4.imp id (fun e=>by omega)
structure GM (w0:World) (hb cb:Nat) (ca:Value) (h A B:List Int) (qa qh:ai) (w:World):Prop where
 f:Fr nothing w0 w
 a:oo w0.heap.size qa A w
 b:oo w0.heap.size qh B w
 hr:w.ownsRow w0.heap.size 3 1 (.slice (some ⟨hb,0,none⟩) h.length h.length) h.length (h.flatMap encZ)
 c:w.cell? ⟨cb,2,none⟩=some ca
 n:w0.heap.size<=cb/\cb≠hb
 da:∀k,qa.v.ownBlock=some k->k≠hb/\k≠cb/\qh.v.ownBlock≠some k
 db:∀k,qh.v.ownBlock=some k->k≠hb/\k≠cb
section
variable {w0 w w2 : World} {hb cb : Nat} {ca : Value} {h A B : List Int} {qa qh : ai}
theorem GM.cl (s:GM w0 hb cb ca h A B qa qh w):cb<w.heap.size:=lt_of_cell s.c
theorem GM.hl (s:GM w0 hb cb ca h A B qa qh w):w0.heap.size<=hb/\hb<w.heap.size:=s.hr.lt hb rfl
theorem GM.new (s:GM w0 hb cb ca h A B qa qh w) (hf:Fr nothing w w2):GM w0 hb cb ca h A B qa qh w2:=
 ⟨s.f.trans hf,s.a.fr hf (fun _ _=>id),s.b.fr hf (fun _ _=>id),aI s.hr hf (fun _ _=>id),(hf.cell (p:=⟨cb,2,none⟩) s.cl id).trans s.c,s.n,s.da,s.db⟩
theorem KM:∀l:List Int,l.flatMap encZ=l.map (Value.int .i64)
 |[]=>rfl
 |x::l=>by simp[encZ,<-KM l]
theorem GM.put (s:GM w0 hb cb ca h A B qa qh w) (i:Nat) (z:Int):GM w0 hb cb ca (h.set i z) A B qa qh (w.setCell ⟨hb,i,none⟩ (.int .i64 z))/\Fr (fun k=>k=hb) w (w.setCell ⟨hb,i,none⟩ (.int .i64 z)):=by
 have hf:Fr (fun k=>k=hb) w (w.setCell ⟨hb,i,none⟩ (.int .i64 z)):=(Fr.refl (fun k=>k=hb) w).setCell (p:=⟨hb,i,none⟩) (.inl rfl) _;refine⟨⟨s.f.then hf (fun k hk e=>by have:=s.hl.1;omega),s.a.fr hf (fun k hk e=>(s.da k hk).1 e),s.b.fr hf (fun k hk e=>(s.db k hk).1 e),?_,(hf.cell (p:=⟨cb,2,none⟩) s.cl (fun e=>s.n.2 e)).trans s.c,s.n,s.da,s.db⟩,hf⟩
 have h1:=(s.hr.stored i (.int .i64 z)).1;rw[KM] at h1⊢;rw[List.length_set,List.map_set];exact h1
theorem GM.push (s:GM w0 hb cb ca h A B qa qh w) (x y:Int) (lA:A.length<=1000000) (lB:B.length<=1000000):
 ∃(WO uu:ai) (w1 w2:World),(Builtin.append_ #[92,92] 92 #[.slice qa.a qa.n qa.c,.slice (some ⟨w.heap.size,0,none⟩) 1 1]).run Tryz.prog (w.alloc (lS x))=.ok (.slice WO.a WO.n WO.c) w1/\
  (Builtin.append_ #[92,92] 92 #[.slice qh.a qh.n qh.c,.slice (some ⟨w1.heap.size,0,none⟩) 1 1]).run Tryz.prog (w1.alloc (lS y))=.ok (.slice uu.a uu.n uu.c) w2/\GM w0 hb cb ca h (A++ [x]) (B++ [y]) WO uu w2/\Fr (fun k=>qa.v.ownBlock=some k\/qh.v.ownBlock=some k) w w2:=by
 obtain⟨WO,w1,r1,a1,f1,t1⟩:=s.a.app x s.f.size lA;have b1:oo w0.heap.size qh B w1:=s.b.fr f1 (fun k hk e=>(s.da k e).2.2 hk);obtain⟨uu,w2,r2,b2,f2,t2⟩:=b1.app y (Nat.le_trans s.f.size f1.size) lB;have hF:Fr (fun k=>qa.v.ownBlock=some k\/qh.v.ownBlock=some k) w w2:=(f1.mono (fun _ _ e=> .inl e)).trans (f2.mono (fun _ _ e=> .inr e));have hcl:=s.cl;have Oo:=s.hl;have hsz:=f1.size;have na:∀k,WO.v.ownBlock=some k->k≠hb/\k≠cb/\¬qh.v.ownBlock=some k:=fun k hk=>by
  rcases t1 k hk with e|e
  ·exact s.da k e
  ·exact⟨by omega,by omega,fun e2=>by have:=(s.b.lt e2).2;omega⟩
 refine⟨WO,uu,w1,w2,r1,r2,⟨s.f.then hF ?_,a1.fr f2 (fun k hk e=>(na k hk).2.2 e),b2,aI s.hr hF ?_,(hF.cell (p:=⟨cb,2,none⟩) hcl ?_).trans s.c,s.n,fun k hk=>⟨(na k hk).1,(na k hk).2.1,fun e=>?_⟩,fun k hk=>?_⟩,hF⟩
 ·rintro k hk (e|e)
  ·have:=(s.a.lt e).1;omega
  ·have:=(s.b.lt e).1;omega
 ·rintro k hk (e|e)
  ·obtain rfl:hb=k:=Option.some.inj hk;exact(s.da _ e).1 rfl
  ·obtain rfl:hb=k:=Option.some.inj hk;exact(s.db _ e).1 rfl
 ·rintro(e|e)
  ·exact(s.da _ e).2.1 rfl
  ·exact(s.db _ e).2 rfl
 ·rcases t2 k e with e|e
  ·exact(na k hk).2.2 e
  ·have:=(a1.lt hk).2;omega
 ·rcases t2 k hk with e|e
  ·exact s.db k e
  ·exact⟨by omega,by omega⟩
end
end
end Go.Proofs.YtbcadjgpcfmkfaaGreatDoor
