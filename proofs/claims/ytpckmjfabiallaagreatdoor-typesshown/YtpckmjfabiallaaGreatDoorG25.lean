/- Texts of ours, joined. -/
import Derived.Test.YtpckmjfabiallaaGreatDoorG24
import Derived.Test.YtpckmjfabiallaaGreatDoorG23
set_option linter.unusedVariables false
set_option linter.unusedSimpArgs false
set_option maxRecDepth 100000
set_option maxHeartbeats 16000000
namespace Go.Proofs.YtpckmjfabiallaaGreatDoor
variable{B':Nat->Prop}{b g i mb p:Nat}{cs:List Value}{sl v v0:Value}{w w':World}{x:List UInt8}
open List
open _root_.Go.Proofs.Tryz
section
open Go.RowKit
open Ck (CE CS CF CP Mng)
theorem As4:(prog.info? 36).map (λ i=>(i.zero,i.size,i.bytes))=some (some (.agg #[sE,.bool false,sZ,sE,sZ,sZ,iv 0]),7,120):=by kernel_rfl
theorem E4.since{B:AS}(s:Since B w w'){e:CF}(h:E4 B w e cs):E4 B w' e cs:=by
 obtain⟨ps,ls,bs,h1,h2,h3,row,h4,h5⟩:=h;exact⟨ps,ls,bs,h1,SlRow.since h2 s,SlRow.since h3 s,row,h4.since s,h5.since s⟩
theorem E4.base{B:AS}(hb:∀k,B k->k<w.heap.size->B' k){e:CF}(h:E4 B w e cs):E4 B' w e cs:=by
 obtain⟨ps,ls,bs,h1,h2,h3,row,h4,h5⟩:=h;exact⟨ps,ls,bs,h1,BD h2 hb,BD h3 hb,row,h4.base' hb,Au.base hb h5⟩
theorem E4.ln{B:AS}{e:CF}(h:E4 B w e cs):cs.length=7:=by
 obtain⟨ps,ls,bs,hc,_⟩:=h;rw[hc];rfl
theorem E4.ones{B:AS}{e:CF}(h:E4 B w e cs):∀u∈cs,u.oneCell'=true:=by
 obtain⟨ps,ls,bs,rfl,h2,h3,row,h4,h5⟩:=h;have a1:=SlRow.one h2;have a2:=SlRow.one h3;have a3:=h4.one;intro u hu;simp only[mem_cons,not_mem_nil,or_false] at hu;rcases hu with rfl | rfl | rfl | rfl | rfl | rfl | rfl <;> first | rfl | assumption
theorem Cn.since{B:AS}{w w':World}(s:Since B w w'):∀{l:List CF} {cs:AR},Cn B w l cs->Cn B w' l cs
 | [],cs,h=>h
 | e :: r,cs,h=>by
  obtain⟨c1,c2,hc,h1,h2⟩:=h;exact⟨c1,c2,hc,h1.since s,Cn.since s h2⟩
theorem Cn.base{B B':AS}{w:World}(hb:∀k,B k->k<w.heap.size->B' k):∀{l:List CF} {cs:AR},Cn B w l cs->Cn B' w l cs
 | [],cs,h=>h
 | e :: r,cs,h=>by
  obtain⟨c1,c2,hc,h1,h2⟩:=h;exact⟨c1,c2,hc,h1.base hb,Cn.base hb h2⟩
theorem Cn.snoc{B:AS}{w:World}:∀{l:List CF} {row:AR} {e:CF} {cs:AR},Cn B w l row->E4 B w e cs->Cn B w (l ++ [e]) (row ++ cs)
 | [],row,e,cs,h1,h2=>by
  have h1:row=[]:=h1;subst h1;exact⟨cs,[],by simp,h2,rfl⟩
 | x :: r,row,e,cs,h1,h2=>by
  obtain⟨c1,c2,rfl,h3,h4⟩:=h1;exact⟨c1,c2 ++ cs,by simp,h3,Cn.snoc h4 h2⟩
theorem Cn.at{B:AS}{w:World}:∀{l:List CF} {row:AR} {i:Nat} {e:CF},Cn B w l row->l[i]?=some e->∃cs,E4 B w e cs/\∀j,j<7->row[i*7+j]?=cs[j]?
 | [],row,i,e,h,hi=>by simp at hi
 | a :: r,row,0,e,h,hi=>by
  obtain⟨c1,c2,hc,h1,h2⟩:=h;simp at hi;subst hi;exact⟨c1,h1,λ j hj=>by rw[hc,List.getElem?_append_left (by have:=h1.ln;omega)];simp⟩
 | a :: r,row,i+1,e,h,hi=>by
  obtain⟨c1,c2,hc,h1,h2⟩:=h;obtain⟨cs,k1,k2⟩:=Cn.at h2 (by simpa using hi);refine⟨cs,k1,λ j hj=>?_⟩;have:=h1.ln;rw[hc,List.getElem?_append_right (by omega),<-k2 j hj];congr 1;omega
def Ds(B:AS)(w:World)(cur:Array Value)(l:List CF):Prop:=l.length*7<=cur.size/\∀(i:Nat) (x:CF),l[i]?=some x->∃cs,E4 B w x cs/\∀j,j<7->cur[i*7+j]?=cs[j]?
theorem Ds.since{B:AS}{cur:Array Value}{l:List CF}(h:Ds B w cur l)(s:Since B w w'):Ds B w' cur l:=⟨h.1,λ i x hi=>by
 obtain⟨cs,h1,h2⟩:=h.2 i x hi;exact⟨cs,h1.since s,h2⟩⟩
theorem Ds.base{B:AS}{cur:Array Value}{l:List CF}(h:Ds B w cur l)(hb:∀k,B k->k<w.heap.size->B' k):Ds B' w cur l:=⟨h.1,λ i x hi=>by
 obtain⟨cs,h1,h2⟩:=h.2 i x hi;exact⟨cs,h1.base hb,h2⟩⟩
def Gf(P:AS)(w:World)(sl:Value)(acc:List CF):Prop:=∃row,w.ownsRow 0 36 7 sl acc.length row/\(∀k,sl.ownBlock=some k->P k)/\Cn (λ k=>P k/\sl.ownBlock≠some k) w acc row
theorem Gf.nil(P:AS)(w:World):Gf P w sZ []:=⟨[],⟨rfl,AI ⟨rfl,rfl⟩⟩,λ k h=>by simp[Value.ownBlock] at h,by rw[Cn]⟩
theorem Gf.since{P:AS}{acc:List CF}(h:Gf P w sl acc)(s:Since P w w'):Gf P w' sl acc:=by
 obtain⟨row,h1,h0,h2⟩:=h;refine⟨row,⟨h1.1,?_⟩,h0,h2.since ⟨s.size,λ k hk hl=>s.block k hk.1 hl⟩⟩;rcases h1.2 with h3 | ⟨g,cap,cur,h3,h4,h5,h6⟩
 .exact AI h3
 .exact AJ ⟨g,cap,cur,h3,h4,by rw[s.block g (h0 g (by rw[h3];rfl)) (Array.getElem?_eq_some_iff.1 h5).1];exact h5,h6⟩
theorem Gf.below{P:AS}{acc:List CF}(h:Gf P w sl acc)(hb:Below w.heap.size w w'):Gf P w' sl acc:=h.since (Since.of_below hb)
theorem Gf.row{P:AS}{w:World}{sl:Value}{acc:List CF}(h:Gf P w sl acc):∃row,SlRow P w 7 sl acc.length row/\Cn P w acc row:=by
 obtain⟨row,h1,h0,h2⟩:=h;refine⟨row,⟨by have:=h1.1;omega,?_⟩,h2.base (λ k hk _=>hk.1)⟩;rcases h1.2 with⟨h3,h4⟩ | ⟨g,cap,cur,h3,h4,h5,h6,h7,h8,h9⟩
 .exact AI ⟨h3,h4⟩
 .refine AJ ⟨g,0,cap,h3,h6,h7,h0 g (by rw[h3];rfl),(AB h5).1,λ j u hj=>?_⟩;rw[Bl h5,Nat.zero_add];rw[<-h9,List.getElem?_take] at hj;split at hj
  .simpa using hj
  .cases hj
theorem Gf.apart{P:AS}{acc:List CF}(h:Gf P w sl acc){k:Nat}(hk:w.heap.size<=k):sl.ownBlock≠some k:=by
 obtain⟨row,h1,_⟩:=h;intro e;have:=(h1.lt k e).2;omega
theorem Gf.base{P P':AS}{acc:List CF}(h:Gf P w sl acc)(hb:∀k,P k->k<w.heap.size->P' k):Gf P' w sl acc:=by
 obtain⟨row,h1,h0,h2⟩:=h;exact⟨row,h1,λ k hk=>hb k (h0 k hk) (h1.lt k hk).2,h2.base (λ k hk hl=>⟨hb k hk.1 hl,hk.2⟩)⟩
theorem Gf.push{P:AS}{acc:List CF}(h:Gf P w sl acc){x:CF}{ad:Addr}(a4:∀(j:Nat) (u:Value),cs[j]?=some u->w.cell? (ad.add j)=some u)(hx:E4 (λ k=>P k/\sl.ownBlock≠some k) w x cs)(hn:acc.length+1<=1000000)(hm:∀k,w.heap.size<=k->P k)(c:Nat)(ty:TypeId) :
  ∃g cap w',(Builtin.append_ #[24,24] ty #[sl,.slice (some ad) 1 c]).run prog w=.ok (sL g 0 (acc.length+1) cap) w'/\Gf P w' (sL g 0 (acc.length+1) cap) (acc ++ [x])/\(∀m,m<=w.heap.size->(∀k,P k->m<=k)->Below m w w')/\(∀k,k<w.heap.size->sl.ownBlock≠some k->w'.heap[k]?=w.heap[k]?)/\w.heap.size<=w'.heap.size/\(sl.ownBlock=some g\/w.heap.size<=g):=by
 obtain⟨row,a5,hP,a7⟩:=h;obtain⟨i,hi,hz,hs,hb⟩:=Fg As4;obtain⟨g,cap,w',hr,ho,hg,a6,aa⟩:=run_append_lies (P:=prog) w 24 ty 0 36 i _ 7 120 underlying24 hi hz hs hb rfl (by decide) sl acc.length row a5 ad 1 c cs (by rw[hx.ln]) a4 hx.ones (by omega) (by unfold maxLen;omega) (by omega) (AO _) _ rfl;have a8:∀k,P k/\sl.ownBlock≠some k->k<w.heap.size->k≠g:=by
  intro k hk hl he;subst he;rcases a6 with h | h
  .exact hk.2 h
  .omega
 have a3:∀k,(P k/\sl.ownBlock≠some k)->k<w.heap.size->P k/\(sL g 0 (acc.length+1) cap).ownBlock≠some k/\(P k/\sl.ownBlock≠some k):=λ k h1 h2=>⟨h1.1,λ e=>a8 k h1 h2 (by simpa [Value.ownBlock] using e.symm),h1⟩
 have a0:Since (λ k=>P k/\(sL g 0 (acc.length+1) cap).ownBlock≠some k/\(P k/\sl.ownBlock≠some k)) w w':=⟨hg.size,λ k h1 h2=>hg.block k h2 (λ e=>h1.2.2.2 e.symm)⟩;refine⟨g,cap,w',hr,⟨row ++ cs,by simpa using ho,?_,?_⟩,λ m hm1 hm2=>(AF _ _).grown hg hm1 (λ k hk=>hm2 k (hP k hk)),λ k h1 h2=>hg.block k h1 (λ e=>h2 e.symm),hg.size,?_⟩
 .intro k hk;have a9:g=k:=by simpa [Value.ownBlock] using hk
  rw[<-a9];rcases a6 with h | h
  .exact hP g h
  .exact hm g (by omega)
 .exact (((a7.base a3).since a0).snoc ((hx.base a3).since a0)).base (λ k h _=>⟨h.1,h.2.1⟩)
 .rcases a6 with h | h
  .exact AI h
  .exact AJ (by omega)
theorem Gf.arr{P:AS}{acc:List CF}(h:Gf P w sl acc)(hn:0<acc.length):∃g cap cur,sl=sL g 0 acc.length cap/\P g/\w.heap[g]?=some (.cells cur 36 (0,0))/\acc.length<=cap/\cap<=9223372036854775807/\Ds (λ k=>P k/\k≠g) w cur acc:=by
 obtain⟨row,h1,h2,h3⟩:=h;rcases h1.2 with⟨_,h0⟩ | ⟨g,cap,cur,e1,-,e3,e4,e5,e6,e7⟩
 .omega
 .refine⟨g,cap,cur,e1,h2 g (by rw[e1];rfl),e3,e4,by unfold maxLen at e5;omega,?_,λ i x hi=>?_⟩
  .rw[e6];exact Nat.mul_le_mul_right 7 e4
  .obtain⟨cs,k1,k2⟩:=h3.at hi;refine⟨cs,k1.base (λ k hk _=>⟨hk.1,λ e=>hk.2 (by rw[e1,e];rfl)⟩),λ j hj=>?_⟩;have hl:=(AK hi).1;have h9:=k2 j hj;rw[<-e7,List.getElem?_take,if_pos (by omega)] at h9;simpa using h9
theorem Ds.all{B:AS}{w:World}:∀{l:List CF} {row:AR},row.length=l.length*7->(∀(i:Nat) (x:CF),l[i]?=some x->∃cs,E4 B w x cs/\∀j,j<7->row[i*7+j]?=cs[j]?)->Cn B w l row
 | [],row,hl,_=>by have:row=[]:=length_eq_zero_iff.1 (by simpa using hl);exact this
 | x :: r,row,hl,h=>by
  obtain⟨cs,k1,k2⟩:=h 0 x rfl;have a3:=k1.ln;have a0:row.length=(r.length+1)*7:=by simpa using hl
  have e1:row.take 7=cs:=by
   refine ext_getElem? λ j=>?_
   rw[List.getElem?_take];split
   .rename_i hj;have:=k2 j hj;simpa using this
   .rw[List.getElem?_eq_none_iff.2 (by omega)]
  refine⟨cs,row.drop 7,by rw[<-e1,take_append_drop],k1,Ds.all (by rw[length_drop,a0];omega) (λ i y hy=>?_)⟩;obtain⟨ds,m1,m2⟩:=h (i+1) y (by simpa using hy);refine⟨ds,m1,λ j hj=>?_⟩;rw[List.getElem?_drop,<-m2 j hj];congr 1;omega
theorem Ds.fns{B:AS}{cur:Array Value}{l:List CF}{cap:Nat}(h:Ds B w cur l)(hb:w.heap[g]?=some (.cells cur 36 (0,0)))(hB:B g)(h1:l.length<=cap)(h2:cap<=9223372036854775807):Aj0 B w l (sL g 0 l.length cap):=by
 have a0:(cur.toList.take (l.length*7)).length=l.length*7:=by have:=h.1;simp;omega
 refine⟨cur.toList.take (l.length*7),⟨a0,AJ ⟨g,0,cap,rfl,h1,by unfold maxLen;omega,hB,(AB hb).1,λ j u hj=>?_⟩⟩,Ds.all (a0) (λ i x hi=>?_)⟩
 .rw[Bl hb,Nat.zero_add];rw[List.getElem?_take] at hj;split at hj
  .simpa using hj
  .cases hj
 .obtain⟨cs,k1,k2⟩:=h.2 i x hi;have hl:=(AK hi).1;refine⟨cs,k1,λ j hj=>?_⟩;rw[List.getElem?_take,if_pos (by omega),<-k2 j hj];simp
def Jf(f:CF):Ck.Hd:=⟨f.on,f.params.map Prod.snd,f.result⟩
theorem Al2{l:List (List UInt8 × List UInt8)}{s:List UInt8 × List UInt8}(h:l[i]?=some s):(l.flatMap Bi)[i*3+1]?=some (strV s.2):=by
 induction l generalizing i with
 | nil=>simp at h
 | cons a r ih=>
  have e:(a :: r).flatMap Bi=Bi a ++ r.flatMap Bi:=by simp
  have hl:(Bi a).length=3:=rfl;rw[e];rcases i with _ | i
  .simp at h;subst h;rfl
  .rw[List.getElem?_append_right (by omega),hl,show (i+1)*3+1 - 3=i*3+1 by omega];exact ih (by simpa using h)
theorem Ds.hds{B:AS}{cur:Array Value}{l:List CF}{cap:Nat}(h:Ds B w cur l)(hb:w.heap[g]?=some (.cells cur 36 (0,0)))(hB:B g)(h1:l.length<=cap)(h2:cap<=9223372036854775807):Qt B w (l.map Jf) (sL g 0 l.length cap):=by
 obtain⟨row,⟨e1,e2⟩,e3⟩:=h.fns hb hB h1 h2;refine⟨row,⟨by rw[length_map];exact e1,by rw[length_map];exact e2⟩,λ i hd hi=>?_⟩;rw[List.getElem?_map] at hi;rcases hx:l[i]? with _ | x
 .rw[hx] at hi;cases hi
 .rw[hx] at hi;simp only[Option.map_some,Option.some.injEq] at hi;subst hi;obtain⟨cs,⟨ps,ls,bs,rfl,m1,m2,m3⟩,k2⟩:=e3.at hx;obtain⟨la,lc,rfl,-,-⟩:=SlRow.val m2;obtain⟨a0,m3,-⟩:=m3;obtain⟨ba,bc,rfl,-,-⟩:=m3.val;refine⟨_,ps,la,_,lc,ba,_,bc,0,k2 0 (by omega),k2 1 (by omega),k2 2 (by omega),k2 3 (by omega),k2 4 (by omega),k2 5 (by omega),k2 6 (by omega),x.params.flatMap Bi,?_,λ j t hj=>?_⟩
  .have m1:SlRow B w 3 ps x.params.length (x.params.flatMap Bi):=m1;show SlRow B w 3 ps (x.params.map Prod.snd).length _;rw[length_map];exact m1
  .have hj:(x.params.map Prod.snd)[j]?=some t:=hj;rw[List.getElem?_map] at hj;rcases hy:x.params[j]? with _ | y
   .rw[hy] at hj;cases hj
   .rw[hy] at hj;simp only[Option.map_some,Option.some.injEq] at hj;subst hj;exact Al2 hy
end
section
open Go.RowKit
open Ck (CE CS CF CP Mng)
attribute [local go_sem ↓] Go.wp_at_zero Go.wp_at_succ
def Es(f:Px.Fn):CF:=⟨f.name,f.on,Ck.slots f.params,f.result,[],[]⟩
theorem As5{B:AS}{f:Px.Fn}(h:Hy B w (Ck.slots f.params) v):E4 B w (Es f) [strV f.name,.bool f.on,v,strV f.result,sZ,sZ,iv 0]:=
 ⟨v,sZ,sZ,rfl,h,⟨rfl,AI ⟨rfl,rfl⟩⟩,[],⟨rfl,AI ⟨rfl,rfl⟩⟩,Au.nil⟩
theorem D6.more{env:Ck.Env}(h:D6 env)(x:AQ)(m:Mng)(hm:m.kind≠0):D6 (env ++ [(x,m)]):=λ y hy=>by
 rcases mem_append.1 hy with hy | hy
 .exact h y hy
 .simp at hy;subst hy;exact hm
theorem Jg{env e:Ck.Env}{m:Mng}(h:Ck.note env x p m=.inl e):e=env ++ [(x,m)]:=by
 obtain⟨_,-,h⟩:=An h;cases h;rfl
theorem Xu{B:AS}{l:List Px.Fn}(h:Gc B w l v){f:Px.Fn}(hi:l[i]?=some f):∃(g o cap:Nat) (pa ba:Option Addr) (pc bc:Nat),v=sL g o l.length cap/\B g/\g<w.heap.size/\(∀j u,[strV f.name,.bool f.on,.slice pa f.params.length pc,strV f.result,sZ,.slice ba f.body.length bc,iv f.place][j]?=some u->w.cell? ⟨g,o+i*7+j,none⟩=some u)/\E1 B w f [strV f.name,.bool f.on,.slice pa f.params.length pc,strV f.result,sZ,.slice ba f.body.length bc,iv f.place]:=by
 obtain⟨row,h1,h2⟩:=h;obtain⟨cs,hf,k2⟩:=h2.get hi;have a4:=(AK hi).1;obtain⟨g,o,cap,e,-,-,hB,hg,hc⟩:=h1.cells (by omega);have a3:=hf;obtain⟨ps,bs,rfl,m1,row2,m2,m3⟩:=hf;obtain⟨pa,pc,rfl,-,-⟩:=SlRow.val m1;obtain⟨ba,bc,rfl,-,-⟩:=m2.val;refine⟨g,o,cap,pa,ba,pc,bc,e,hB,hg,λ j u hj=>?_,a3⟩;rw[Nat.add_assoc];have a0:j<7:=(AK hj).1;exact hc _ _ (by rw[k2 j a0];exact hj)
structure H1(n0 b mb cb nb:Nat)(w4:World)(l:List Px.Sl)(A:Ck.R Ck.Env)(q:Nat)(envr:Ck.Env)(nvr:Value)(names:List (List UInt8))(wr:World):Prop where
 env:Bb wr mb envr
 eok:D6 envr
 sc:Sc n0 b cb nb nvr names wr
 nl:names.length=q
 nv:∀j,nvr.ownBlock=some j->w4.heap.size<=j
 fm:Fm (λ j=>j=mb\/j=nb) w4 wr
 ans:A=Ck.states envr q (l.drop q)
structure H2(n0 b mb cb nb n1:Nat)(v0 ss lv0:Value)(num:Nat)(w4:World)(l:List Px.Fn)(A:Ck.R Ck.Env)(q:Nat)(envr:Ck.Env)(nvr fs:Value)(names:List (List UInt8))(wr:World):Prop where
 env:Bb wr mb envr
 eok:D6 envr
 sc:Sc n0 b cb nb nvr names wr
 nl:names.length=n1+q
 nv:∀j,nvr.ownBlock=some j->w4.heap.size<=j
 blk:wr.heap[b]?=some (.cells #[v0,ss,fs,.map (some mb),iv num,lv0] 62 (0,0))
 gf:Gf (λ j=>w4.heap.size<=j/\nvr.ownBlock≠some j) wr fs ((l.take q).map Es)
 fm:Fm (λ j=>j=b\/j=mb\/j=nb) w4 wr
 ans:A=Ck.fns envr q (l.drop q)
def V0(b mb:Nat)(v0 lv0:Value)(num:Nat)(p:Px.Pr)(w:World)(r:Ck.R Ck.Env)(e:Ending)(w':World):Prop:=
 match r with
 | .inl env'=>e=.returned (.tuple #[])/\∃ss fs,w'.heap[b]?=some (.cells #[v0,ss,fs,.map (some mb),iv num,lv0] 62 (0,0))/\Bb w' mb env'/\Hy (λ j=>From w.heap.size j/\fs.ownBlock≠some j) w' (Ck.slots p.states) ss/\Gf (From w.heap.size) w' fs (p.fns.map Es)/\Fm (λ j=>j=b\/j=mb) w w'
 | .inr (a,er)=>e=.panicked (Ag a er)/\Fm (λ j=>j=b\/j=mb) w w'
theorem Zl{p:Px.Pr}{num:Nat}{lv0:Value}{sa fa:Option Addr}{sc fc:Nat}
  (hblk:w.heap[b]?=some (.cells #[v0,sZ,sZ,.map (some mb),iv num,lv0] 62 (0,0))) (henv:Bb w mb []) (hbm:b≠mb)
  (hst:Ew (λ j=>j<w.heap.size/\j≠b/\j≠mb) w p.states (.slice sa p.states.length sc)) (hfn:Gc (λ j=>j<w.heap.size/\j≠b/\j≠mb) w p.fns (.slice fa p.fns.length fc))
  (hl1:p.states.length<=40000) (hl2:p.fns.length<=40000) (eb:∀s∈p.states,s.name.length<=1000/\s.type.length<=1000)
  (ez:∀f∈p.fns,f.name.length<=1000/\f.result.length<=1000/\f.params.length<=100000/\∀s∈f.params,s.name.length<=1000/\s.type.length<=1000) :
  AA 46 #[pt b 0,.agg #[iv p.version,.slice sa p.states.length sc,.slice fa p.fns.length fc]] w λ e w'=>V0 b mb v0 lv0 num p w (Ck.bind (Ck.states [] 0 p.states) λ e1=>Ck.fns e1 0 p.fns) e w':=by
 have hb:b<w.heap.size:=(AB hblk).1;have hm:mb<w.heap.size:=henv.lt;obtain⟨R,HR⟩:∃R:Ck.R Ck.Env,Hid ((Ck.bind (Ck.states [] 0 p.states) λ e1=>Ck.fns e1 0 p.fns)=R):=⟨_,rfl⟩;rw[HR.out];obtain⟨A,HA⟩:∃A:Ck.R Ck.Env,Hid (Ck.states [] 0 p.states=A):=⟨_,rfl⟩;have dy:Hid (R=Ck.bind A λ e1=>Ck.fns e1 0 p.fns):=by show _=_;rw[<-HA.out];exact HR.out.symm
 clear HR;obtain⟨w0,en⟩:∃w0,w.alloc (.cells #[iv p.version,.slice sa p.states.length sc,.slice fa p.fns.length fc] 26)=w0:=⟨_,rfl⟩;have cd:Below w.heap.size w w0:=by rw[<-en];exact (AF _ _).alloc (AD _) _
 have et:w0.heap[w.heap.size]?=some (.cells #[iv p.version,.slice sa p.states.length sc,.slice fa p.fns.length fc] 26 (0,0)):=by rw[<-en];exact heap_new _ _
 have l0:w.heap.size<w0.heap.size:=(AB et).1;have fx:=Hg (n0:=w.heap.size) (b:=b) (w:=w0) (by omega);have eu:=λ (j:Nat) (s:Px.Sl) (hj:p.states[j]?=some s)=>Ld hst hj
 have ek:=λ (j:Nat) (f:Px.Fn) (hj:p.fns[j]?=some f)=>Xu hfn hj
 replace eu:=B4 eu;replace ek:=B4 ek;replace eb:=B4 eb;replace ez:=B4 ez;go_enter func46,ntmps46;go_wp2_with fail;refine fx.mono ?_;rintro e w3 ⟨cb,nb,rfl,dn,hz,hv,dr⟩;clear fx;have h6:=dr.size;have el:=(dr.block _ l0).trans et;obtain⟨d0,d1,d2,-⟩:=Az el;have gv:w.heap.size<w3.heap.size:=by omega
 have d6:Below w.heap.size w w3:=cd.trans (dr.mono cd.size);have f5:=O0 (w:=w3) (SlRow.since hst (Since.of_below d6)) (by omega) eb.out;have c7:=(d6.block _ hb).trans hblk;have c1:Bb w3 mb []:=henv.since (d6.block _ hm);have hr:cb<w3.heap.size:=(AB dn.cbk).1;have ei:nb<w3.heap.size:=(AB dn.nbk).1;clear dr cd en et;go_wp2_with fail;refine f5.mono ?_;rintro e w4a ⟨a2,c2,rfl,bt,b6⟩;clear f5 d0 d1 d2;have gr:=b6.size;have am:=(b6.block b (by omega)).trans c7;obtain⟨-,g1,-,-,-,-,-,f1,-⟩:=Bh am;have hn:b<w4a.heap.size:=by omega
 obtain⟨w4,fp⟩:∃w4,w4a.setCell ⟨b,1,none⟩ (.slice a2 p.states.length c2)=w4:=⟨_,rfl⟩;have cv:Fm (λ j=>j=b) w4a w4:=by rw[<-fp];exact Fm.set (X:=λ j=>j=b) rfl 1 _
 have c0:w4.heap[b]?=some (.cells #[v0,.slice a2 p.states.length c2,sZ,.map (some mb),iv num,lv0] 62 (0,0)):=by rw[<-fp];simp[World.setCell,Array.getElem?_modify,am]
 have gg:=cv.size;have b3:Fm (λ j=>j=b) w w4:=(Fm.of_below (X:=λ _=>False) (d6.trans (b6.mono d6.size))).trans cv (λ _ _ h=>h.elim) (λ _ _ h=>h);have cf:Fm (λ j=>j=b) w3 w4:=(Fm.of_below (X:=λ _=>False) b6).trans cv (λ _ _ h=>h.elim) (λ _ _ h=>h);have f4:=(cf.block _ gv (by omega)).trans el;have fg:Cls w3.heap.size w4 (.slice a2 p.states.length c2) (Ck.slots p.states):=bt.since (λ j e=>cv.block j (bt.lt e).2 (by have:=(bt.lt e).1;omega));have e7:SlRow (λ j=>w3.heap.size<=j/\j<w4.heap.size) w4 3 (.slice a2 p.states.length c2) (Ck.slots p.states).length ((Ck.slots p.states).flatMap Bi):=BD fg.row (λ j h1 h2=>⟨h1,h2⟩);have fu:(Ck.slots p.states).length=p.states.length:=by simp[Ck.slots]
 rw[fu] at e7;have dh:Hid (H1 w.heap.size b mb cb nb w4 p.states A 0 [] sZ [] w4):=by
  refine⟨c1.since (cf.block mb (by omega) (by omega)),λ x hx=>(by cases hx),dn.keep (λ j hj=>cf.block j ?_ ?_),rfl,λ j e=>(by cases e),Fm.refl _ _,?_⟩
  .rcases hj with rfl | rfl | e
   .exact hr
   .exact ei
   .cases e
  .rcases hj with rfl | rfl | e
   .omega
   .omega
   .cases e
  .rw[drop_zero];exact HA.out.symm
 obtain⟨d0,d1,d2,-⟩:=Az f4;have gk:w.heap.size<w4.heap.size:=by omega
 have ab:∀(a er:Nat) (X:AS) (wy:World),Fm X w4 wy->(∀j,j<w.heap.size->X j->j=b\/j=mb)->R=.inr (a,er)->V0 b mb v0 lv0 num p w R (.panicked (Ag a er)) wy:=λ a er X wy hF hX hR=>by
  rw[hR];exact⟨rfl,b3.trans hF (λ j _ e=>AI e) hX⟩
 replace ab:=B4 ab;have gj:w.heap.size<=nb:=by omega
 clear HA bt b6 am cv dn c1 c7 el fg;go_wp2_with fail;clear d0 d1 d2 g1 f1
 go_loopg [27] p.states.length (λ gh ii wr=>∃q envr nvr names,q<=p.states.length/\gh=p.states.length - q/\ii=iv q/\Hid (H1 w.heap.size b mb cb nb w4 p.states A q envr nvr names wr))
 case atStart=>exact⟨0,[],sZ,[],AO _,rfl,rfl,dh⟩
 case round=>
  obtain⟨q,envr,nvr,names,hq,rfl,rfl,HI⟩:=hrel;clear dh;have d9:=HI.out.fm.size;by_cases hlt:q<p.states.length
  .have bl:(q:Int)<(p.states.length:Int):=by omega
   have hh:(0:Int)<=(q:Int):=by omega
   obtain⟨s,e4⟩:∃s,p.states[q]?=some s:=⟨_,AN hlt⟩;obtain⟨ga,oa,ca,ea,a7,b4,u0,u1,u2⟩:=eu.out q s e4;simp only[Value.slice.injEq] at ea;obtain⟨rfl,-,rfl⟩:=ea;have a0:∀j,j<w.heap.size->j≠b->j≠mb->wr.heap[j]?=w.heap[j]?:=λ j h1 h2 h3=>(HI.out.fm.block j (by omega) (by rintro (e | e) <;> omega)).trans (b3.block j h1 h2)
   replace u0:=(Ak (a0 ga b4 a7.2.1 a7.2.2)).trans u0;replace u1:=(Ak (a0 ga b4 a7.2.1 a7.2.2)).trans u1;replace u2:=(Ak (a0 ga b4 a7.2.1 a7.2.2)).trans u2;have ep:ga<wr.heap.size:=by omega
   have ag:=(HI.out.fm.block b (by omega) (by rintro (e | e) <;> omega)).trans c0;rcases e7.2 with⟨-,h0⟩ | ⟨sg,so,g4,fr,gm,gu,i0,eo,bb⟩
   .omega
   simp only[Value.slice.injEq] at fr;obtain⟨rfl,-,rfl⟩:=fr;have d5:w4.cell? ⟨sg,so+q*3+1,none⟩=some (strV s.type):=by
    rw[Nat.add_assoc];exact bb _ _ (Al2 (l:=Ck.slots p.states) (i:=q) (s:=(s.name,s.type)) (by simp[Ck.slots,e4]))
   have df:=(Ak (HI.out.fm.block sg eo (by rintro (e | e) <;> omega))).trans d5;obtain⟨w5,ch⟩:∃w5,wr.alloc (.cells #[sE,sE,iv 0] 40)=w5:=⟨_,rfl⟩;obtain⟨w6,c8⟩:∃w6,((w5.setCell ⟨wr.heap.size,0,none⟩ (strV s.name)).setCell ⟨wr.heap.size,1,none⟩ (strV s.type)).setCell ⟨wr.heap.size,2,none⟩ (iv s.place)=w6:=⟨_,rfl⟩;have cz:Below wr.heap.size wr w5:=by rw[<-ch];exact (AF _ _).alloc (AD _) _
   have bq:w5.heap[wr.heap.size]?=some (.cells #[sE,sE,iv 0] 40 (0,0)):=by rw[<-ch];exact heap_new _ _
   have l5:wr.heap.size<w5.heap.size:=(AB bq).1;have au:Below wr.heap.size wr w6:=by rw[<-c8];exact ((cz.setCell (p:=⟨wr.heap.size,0,none⟩) (AD _) _).setCell (p:=⟨wr.heap.size,1,none⟩) (AD _) _).setCell (p:=⟨wr.heap.size,2,none⟩) (AD _) _
   have bu:w6.heap[wr.heap.size]?=some (.cells #[strV s.name,strV s.type,iv s.place] 40 (0,0)):=by rw[<-c8];simp[World.setCell,Array.getElem?_modify,bq]
   have l6:wr.heap.size<w6.heap.size:=(AB bu).1;obtain⟨y0,y1,y2,z0,z1,z2⟩:=Az bq;obtain⟨c4,cl,c5,-⟩:=Az bu;have bo:Fm (λ j=>j=mb\/j=nb) w4 w6:=HI.out.fm.trans (Fm.of_below (X:=λ _=>False) au) (λ _ _ h=>h) (λ _ _ h=>h.elim);have a4:p.states.drop q=s :: p.states.drop (q+1):=by
    obtain⟨hi,rfl⟩:=AK e4;exact drop_eq_getElem_cons hi
   have bh:Hid (A=Ck.bind (Ck.need (decide (q<32)) s.place 36) λ _=>Ck.bind (Ck.note envr s.name s.place ⟨1,q,s.type⟩) λ e=>Ck.states e (q+1) (p.states.drop (q+1))):=by
    show _=_;rw[HI.out.ans,a4,Ck.states]
   have a5:=(au.block b (by omega)).trans ag;obtain⟨f3,-⟩:=bcell au;have p6:=(f3 sg (so+q*3+1) (by omega)).trans df;obtain⟨-,c6,-⟩:=Bh a5;have af:Bb w6.drew mb envr:=HI.out.env.since (au.block mb HI.out.env.lt);have bk:Sc w.heap.size b cb nb nvr names w6.drew:=HI.out.sc.keep (λ j hj=>au.block j (by
    rcases hj with rfl | rfl | e
    .exact (AB HI.out.sc.cbk).1
    .exact (AB HI.out.sc.nbk).1
    .exact (HI.out.sc.own.lt e).2))
   have ha:=au.size;have a8:=My (w:=w6.drew) a5 af HI.out.eok bk (by show w.heap.size<=w6.heap.size;omega) hm (by rw[HI.out.nl];omega) s.name s.place ⟨1,q,s.type⟩;have br:=λ e=>Jg (env:=envr) (x:=s.name) (p:=s.place) (m:=⟨1,q,s.type⟩) (e:=e)
   generalize Ck.note envr s.name s.place ⟨1,q,s.type⟩=D at *;replace br:=B4 br;clear a0 a7 bb d5 df bq cz bu a4 ag f3 a5 af bk;by_cases h32:q<32
   rotate_left
   .have ct:decide ((q:Int)<32)=false:=decide_eq_false (by omega);have hN:=Ao s.place 36 w6;have a3:=ab.out s.place 36 _ w6 bo (λ j _ e=>by rcases e with e | e;exact AJ e;omega) (by rw[dy.out,bh.out,decide_eq_false h32];rfl);clear a8 HI ab;go_wp2_with fail;refine hN.mono ?_;rintro e w7 ⟨rfl,rfl⟩;exact⟨rfl,a3⟩
   have ct:decide ((q:Int)<32)=true:=decide_eq_true (by omega);have hN:=Av s.place 36 w6;have cg:Hid (A=Ck.bind D λ e=>Ck.states e (q+1) (p.states.drop (q+1))):=by
    show _=_;rw[bh.out,decide_eq_true h32];rfl
   clear bh;go_wp2_with fail;refine hN.mono ?_;rintro e w7 ⟨rfl,d3⟩;obtain rfl:=d3.symm;clear hN d3;go_wp2_with fail;refine Vv.wpE_begin (S:=λ w'=>w'.cell? ⟨wr.heap.size,0,none⟩=some (strV s.name)/\w'.cell? ⟨wr.heap.size,2,none⟩=some (iv s.place)/\w'.cell? ⟨b,1,none⟩=some (sL sg so p.states.length c2)/\w'.cell? ⟨sg,so+q*3+1,none⟩=some (strV s.type)) (N:=λ j=>decide (j<16)) (by kernel_rfl) ?_;have a6:w6.drew.cell? ⟨wr.heap.size,0,none⟩=some (strV s.name)/\w6.drew.cell? ⟨wr.heap.size,2,none⟩=some (iv s.place)/\w6.drew.cell? ⟨b,1,none⟩=some (sL sg so p.states.length c2)/\w6.drew.cell? ⟨sg,so+q*3+1,none⟩=some (strV s.type):=⟨c4,c5,c6,p6⟩;refine Aa 37 [16] 0 (.func (.func 112) #[] #[pt cb 0,pt nb 0]) a6 ?_
   try simp only[aP]
   refine Aa 38 [2,16] 1 (pt wr.heap.size 0) a6 ?_
   try simp only[aP]
   refine Aa 39 [16] 2 (strV s.name) a6 ?_
   try simp only[aP]
   refine Aa 40 [4,16] 3 (pt wr.heap.size 2) a6 ?_
   try simp only[aP]
   refine Aa 41 [16] 4 (iv s.place) a6 ?_
   try simp only[aP]
   refine Aa 42 [15,16] 5 (iv q) a6 ?_
   try simp only[aP]
   refine Aa 43 [7,8,9,10,12,13,14,15,16] 6 (pt b 0) a6 ?_
   try simp only[aP]
   refine Aa 44 [8,9,10,12,13,14,15,16] 7 (pt b 0) a6 ?_
   try simp only[aP]
   refine Aa 45 [9,10,12,13,14,15,16] 8 (pt b 0) a6 ?_
   try simp only[aP]
   refine Aa 46 [10,12,13,14,15,16] 9 (pt b 1) a6 ?_
   try simp only[aP]
   refine Aa 47 [12,13,14,15,16] 10 (sL sg so p.states.length c2) a6 ?_
   try simp only[aP]
   refine Aa 48 [12,13,14,15,16] 11 (iv q) a6 ?_
   try simp only[aP]
   refine Aa 49 [13,14,15,16] 12 (pt sg (so+q*3)) a6 ?_
   try simp only[aP]
   refine Aa 50 [14,15,16] 13 (pt sg (so+q*3+1)) a6 ?_
   try simp only[aP]
   refine Aa 51 [15,16] 14 (strV s.type) a6 ?_
   try simp only[aP]
   refine Aa 52 [16] 15 (.agg #[iv 1,iv q,strV s.type]) a6 ?_
   try simp only[aP]
   refine Ah 16 λ K hK=>?_
   go_simp;refine a8.mono ?_;rintro e w8 hP;clear a8 a6;rcases D with env' | ⟨a,er⟩
   rotate_left
   .obtain⟨e5,cj⟩:=hP;obtain rfl:=e5;have a3:=ab.out a er (λ j=>j=mb\/j=nb) w8 (bo.trans (Fm.of_below (X:=λ _=>False) (⟨cj.os,cj.tape,cj.output,cj.size,cj.block⟩:Below w6.heap.size w6 w8)) (λ _ _ h=>h) (λ _ _ h=>h.elim)) (λ j _ e=>by rcases e with e | e;exact AJ e;omega) (by rw[dy.out,cg.out];rfl);exact⟨rfl,a3⟩
   obtain⟨rfl,bx,⟨bj,b5,az⟩,av⟩:=hP;have he:=br.out _ rfl;refine hK _ _ (λ h=>by cases h) ?_;clear hK K
   try simp only[aP]
   refine Vv.wpE_done (by kernel_rfl) ?_;have be:Hid (H1 w.heap.size b mb cb nb w4 p.states A (q+1) env' bj (names ++ [s.name]) w8):=by
    have aj:=HI.out.nv;refine⟨bx,by rw[he];exact HI.out.eok.more _ _ (by show (1:Nat)≠0;decide),b5,by rw[length_append,HI.out.nl];rfl,λ j e=>?_,bo.trans (⟨av.os,av.tape,av.output,av.size,av.block⟩:Fm (λ j=>j=mb\/j=nb\/nvr.ownBlock=some j) w6 w8) (λ _ _ h=>h) (λ j hj e=>?_),by rw[cg.out];rfl⟩
    .rcases az j e with e | e
     .exact aj j e
     .have:w6.heap.size<=j:=e;omega
    .rcases e with e | e | e
     .exact AI e
     .exact AJ e
     .have:=aj j e;omega
   clear bx b5 az av he br cg HI bo c4 cl c5 c6 p6 c8 ch y0 y1 y2 z0 z1 z2 u0 u1 u2;simp only[Exit.inBlock,Exit.then];refine ‹∀(a:Act) (w:World),_->_› _ _ ?_;go_wp2_with fail;go_roundg (p.states.length - (q+1))
   case measure=>omega
   case rel=>exact⟨q+1,env',bj,_,by omega,rfl,by go_num,be⟩
  .have bl:¬(q:Int)<(p.states.length:Int):=by omega
   have fh:q=p.states.length:=by omega
   have dd:A=.inl envr:=by
    rw[HI.out.ans,drop_of_length_le (by omega)];rfl
   have cw:Hid (R=Ck.fns envr 0 p.fns):=by
    show _=_;rw[dy.out,dd];rfl
   obtain⟨A2,bh⟩:∃A2:Ck.R Ck.Env,Hid (Ck.fns envr 0 p.fns=A2):=⟨_,rfl⟩;rw[bh.out] at cw;have ag:=(HI.out.fm.block b (by omega) (by rintro (e | e) <;> omega)).trans c0;have dh:Hid (H2 w.heap.size b mb cb nb p.states.length v0 (.slice a2 p.states.length c2) lv0 num w4 p.fns A2 0 envr nvr sZ names wr):=⟨HI.out.env,HI.out.eok,HI.out.sc,by rw[HI.out.nl,fh];rfl,HI.out.nv,ag,Gf.nil _ _,HI.out.fm.mono (λ j _ e=>AJ e),by rw[drop_zero];exact bh.out.symm⟩;have ff:=(HI.out.fm.block _ gk (by rintro (e | e) <;> omega)).trans f4;obtain⟨d0,d1,d2,-⟩:=Az ff;have gi:w.heap.size<wr.heap.size:=by omega
   clear HI dd bh dy fh ag ff;go_wp2_with fail;clear d0 d1 d2 gi;obtain⟨f6,ed⟩:∃f6,Hid (f6=wr):=⟨wr,rfl⟩;clear ed
   go_loopg [58] p.fns.length (λ gh ii wr=>∃q envr nvr names ar ax,q<=p.fns.length/\gh=p.fns.length - q/\ii=iv q/\Hid (H2 w.heap.size b mb cb nb p.states.length v0 (.slice a2 p.states.length c2) lv0 num w4 p.fns A2 q envr nvr (.slice ar q ax) names wr))
   case atStart=>exact⟨0,envr,nvr,names,none,0,AO _,rfl,rfl,dh⟩
   case round=>
    clear dh hq hlt bl;obtain⟨q,envr,nvr,names,ar,ax,hq,rfl,rfl,HI⟩:=hrel;have d9:=HI.out.fm.size;by_cases hlt:q<p.fns.length
    .have bl:(q:Int)<(p.fns.length:Int):=by omega
     have hh:(0:Int)<=(q:Int):=by omega
     obtain⟨f,dt⟩:∃f,p.fns[q]?=some f:=⟨_,AN hlt⟩;obtain⟨ga,oa,ca,pa,ba,pc,bc,ea,a7,b4,aa,b7⟩:=ek.out q f dt;simp only[Value.slice.injEq] at ea;obtain⟨rfl,-,rfl⟩:=ea;obtain⟨g5,g9,g6,h5⟩:=ez.out f (mem_of_getElem? dt);have a0:∀j,j<w.heap.size->j≠b->j≠mb->wr.heap[j]?=w.heap[j]?:=λ j h1 h2 h3=>(HI.out.fm.block j (by omega) (by rintro (e | e | e) <;> omega)).trans (b3.block j h1 h2)
     have h7:=Ak (a0 ga b4 a7.2.1 a7.2.2) (o:=oa+q*7);have u0:wr.cell? ⟨ga,oa+q*7,none⟩=some (strV f.name):=(Ak (a0 ga b4 a7.2.1 a7.2.2)).trans (aa 0 _ rfl);have u1:=(Ak (a0 ga b4 a7.2.1 a7.2.2)).trans (aa 1 _ rfl);have u2:=(Ak (a0 ga b4 a7.2.1 a7.2.2)).trans (aa 2 _ rfl);have u3:=(Ak (a0 ga b4 a7.2.1 a7.2.2)).trans (aa 3 _ rfl);have u4:=(Ak (a0 ga b4 a7.2.1 a7.2.2)).trans (aa 4 _ rfl);have u5:=(Ak (a0 ga b4 a7.2.1 a7.2.2)).trans (aa 5 _ rfl);have u6:=(Ak (a0 ga b4 a7.2.1 a7.2.2)).trans (aa 6 _ rfl);have ep:ga<wr.heap.size:=by omega
     obtain⟨w5,ch⟩:∃w5,wr.alloc (.cells #[sE,.bool false,sZ,sE,sZ,sZ,iv 0] 36)=w5:=⟨_,rfl⟩;obtain⟨w6,c8⟩:∃w6,((((((w5.setCell ⟨wr.heap.size,0,none⟩ (strV f.name)).setCell ⟨wr.heap.size,1,none⟩ (.bool f.on)).setCell ⟨wr.heap.size,2,none⟩ (.slice pa f.params.length pc)).setCell ⟨wr.heap.size,3,none⟩ (strV f.result)).setCell ⟨wr.heap.size,4,none⟩ sZ).setCell ⟨wr.heap.size,5,none⟩ (.slice ba f.body.length bc)).setCell ⟨wr.heap.size,6,none⟩ (iv f.place)=w6:=⟨_,rfl⟩;have cz:Below wr.heap.size wr w5:=by rw[<-ch];exact (AF _ _).alloc (AD _) _
     have bq:w5.heap[wr.heap.size]?=some (.cells #[sE,.bool false,sZ,sE,sZ,sZ,iv 0] 36 (0,0)):=by rw[<-ch];exact heap_new _ _
     have l5:wr.heap.size<w5.heap.size:=(AB bq).1;have au:Below wr.heap.size wr w6:=by
      rw[<-c8];exact ((((((cz.setCell (p:=⟨wr.heap.size,0,none⟩) (AD _) _).setCell (p:=⟨wr.heap.size,1,none⟩) (AD _) _).setCell (p:=⟨wr.heap.size,2,none⟩) (AD _) _).setCell (p:=⟨wr.heap.size,3,none⟩) (AD _) _).setCell (p:=⟨wr.heap.size,4,none⟩) (AD _) _).setCell (p:=⟨wr.heap.size,5,none⟩) (AD _) _).setCell (p:=⟨wr.heap.size,6,none⟩) (AD _) _
     have bu:w6.heap[wr.heap.size]?=some (.cells #[strV f.name,.bool f.on,.slice pa f.params.length pc,strV f.result,sZ,.slice ba f.body.length bc,iv f.place] 36 (0,0)):=by rw[<-c8];simp[World.setCell,Array.getElem?_modify,bq]
     have l6:wr.heap.size<w6.heap.size:=(AB bu).1;obtain⟨y0,y1,y2,y3,y4,y5,y6,z0,z1,z2,z3,z4,z5,z6⟩:=Cf bq;obtain⟨c4,cl,c5,du,dw,dq,dx,-⟩:=Cf bu;have bo:Fm (λ j=>j=b\/j=mb\/j=nb) w4 w6:=HI.out.fm.trans (Fm.of_below (X:=λ _=>False) au) (λ _ _ h=>h) (λ _ _ h=>h.elim);have a4:p.fns.drop q=f :: p.fns.drop (q+1):=by
      obtain⟨hi,rfl⟩:=AK dt;exact drop_eq_getElem_cons hi
     have bh:Hid (A2=Ck.bind (Ck.need (decide (q<32)) f.place 36) λ _=>Ck.bind (Ck.note envr f.name f.place ⟨2,q,[]⟩) λ e=>Ck.bind (Ck.params 0 f.params) λ _=>Ck.fns e (q+1) (p.fns.drop (q+1))):=by
      show _=_;rw[HI.out.ans,a4,Ck.fns]
     have ha:=au.size;have a5:=(au.block b (by omega)).trans HI.out.blk;have af:Bb w6 mb envr:=HI.out.env.since (au.block mb HI.out.env.lt);have bk:Sc w.heap.size b cb nb nvr names w6:=HI.out.sc.keep (λ j hj=>au.block j (by
      rcases hj with rfl | rfl | e
      .exact (AB HI.out.sc.cbk).1
      .exact (AB HI.out.sc.nbk).1
      .exact (HI.out.sc.own.lt e).2))
     have a8:=My (w:=w6) a5 af HI.out.eok bk (by omega) hm (by rw[HI.out.nl];omega) f.name f.place ⟨2,q,[]⟩;have br:=λ e=>Jg (env:=envr) (x:=f.name) (p:=f.place) (m:=⟨2,q,[]⟩) (e:=e)
     generalize Ck.note envr f.name f.place ⟨2,q,[]⟩=D at *;replace br:=B4 br;replace b7:=B4 b7;replace aa:=B4 aa;replace a0:=B4 a0;clear bq cz a4 af bk h7;by_cases h32:q<32
     rotate_left
     .have ct:decide ((q:Int)<32)=false:=decide_eq_false (by omega);have hN:=Ao f.place 36 w6;have a3:=ab.out f.place 36 _ w6 bo (λ j _ e=>by rcases e with e | e | e;exact AI e;exact AJ e;omega) (by rw[cw.out,bh.out,decide_eq_false h32];rfl);clear a8 HI ab a5 bu;go_wp2_with fail;refine hN.mono ?_;rintro e w7 ⟨rfl,rfl⟩;exact⟨rfl,a3⟩
     have ct:decide ((q:Int)<32)=true:=decide_eq_true (by omega);have hN:=Av f.place 36 w6;have cg:Hid (A2=Ck.bind D λ e=>Ck.bind (Ck.params 0 f.params) λ _=>Ck.fns e (q+1) (p.fns.drop (q+1))):=by
      show _=_;rw[bh.out,decide_eq_true h32];rfl
     clear bh;go_wp2_with fail;refine hN.mono ?_;rintro e w7 ⟨rfl,d3⟩;obtain rfl:=d3.symm;clear hN d3 u0 u1 u2 u3 u4 u5 u6 y0 y1 y2 y3 y4 y5 y6 z0 z1 z2 z3 z4 z5 z6 ct;go_wp2_with fail;refine a8.mono ?_;rintro e w8 hP;clear a8 c4 cl c5 du dw dq dx;rcases D with env' | ⟨a,er⟩
     rotate_left
     .obtain⟨e5,cj⟩:=hP;obtain rfl:=e5;have a3:=ab.out a er (λ j=>j=b\/j=mb\/j=nb) w8 (bo.trans (Fm.of_below (X:=λ _=>False) cj) (λ _ _ h=>h) (λ _ _ h=>h.elim)) (λ j _ e=>by rcases e with e | e | e;exact AI e;exact AJ e;omega) (by rw[cw.out,cg.out];rfl);exact⟨rfl,a3⟩
     obtain⟨rfl,bx,⟨bj,b5,az⟩,av⟩:=hP;have he:=br.out _ rfl;have hc:=av.size;have aj:=HI.out.nv;have cp:=(av.block wr.heap.size l6 (by rintro (e | e | e);omega;omega;have:=(HI.out.sc.own.lt e).2;omega)).trans bu;have ai:=(av.block b (by omega) (by rintro (e | e | e);exact hbm e;omega;have:=aj _ e;omega)).trans a5;have ae:Fm (λ j=>j=b\/j=mb\/j=nb) w4 w8:=bo.trans av (λ _ _ h=>h) (λ j hj e=>by
      rcases e with e | e | e
      .exact AJ (AI e)
      .exact AJ (AJ e)
      .have:=aj j e;omega)
     have bf:∀j,bj.ownBlock=some j->w4.heap.size<=j:=λ j e=>by
      rcases az j e with e | e
      .exact aj j e
      .omega
     have cq:Gf (λ j=>w4.heap.size<=j/\bj.ownBlock≠some j) w8 (.slice ar q ax) ((p.fns.take q).map Es):=by
      have h1:=HI.out.gf.base (P':=λ j=>(w4.heap.size<=j/\nvr.ownBlock≠some j)/\j<wr.heap.size) (λ j h1 h2=>⟨h1,h2⟩);have h2:=(h1.below au).since (w':=w8) ⟨av.size,λ j hj hl=>av.block j hl (by rintro (e | e | e);omega;omega;exact hj.1.2 e)⟩;exact h2.base (λ j hj _=>⟨hj.1.1,λ e=>by
       rcases az j e with e | e
       .exact hj.1.2 e
       .omega⟩)
     have ey:D6 env':=by rw[he];exact HI.out.eok.more _ _ (by show (2:Nat)≠0;decide)
     have ev:(names ++ [f.name]).length=p.states.length+(q+1):=by rw[length_append,HI.out.nl];simp;omega
     have e8:(Value.slice ar q ax).ownBlock≠some wr.heap.size:=HI.out.gf.apart (AD _);obtain⟨B2,HB⟩:∃B2:Ck.R Unit,Hid (Ck.params 0 f.params=B2):=⟨_,rfl⟩;have e0:Hid (A2=Ck.bind B2 λ _=>Ck.fns env' (q+1) (p.fns.drop (q+1))):=by
      show _=_;rw[cg.out,HB.out];rfl
     have fy:Hid (Below w8.heap.size w8 w8/\B2=Ck.params 0 (f.params.drop 0)):=⟨AF _ _,by rw[drop_zero];exact HB.out.symm⟩;obtain⟨d0,d1,d2,-⟩:=Cf cp;have g8:wr.heap.size<w8.heap.size:=by omega
     have ci:b<w8.heap.size:=by omega
     clear HI cg HB br he av az aj au a5 bu bo ch c8;go_wp2_with fail;clear d0 d1 d2;obtain⟨wo,ho⟩:∃wo,wo=wr:=⟨_,rfl⟩;subst ho
     go_loopg [79] f.params.length (λ gh ii wz=>∃jj,jj<=f.params.length/\gh=f.params.length - jj/\ii=iv jj/\Hid (Below w8.heap.size w8 wz/\B2=Ck.params jj (f.params.drop jj)))
     case atStart=>exact⟨0,AO _,rfl,rfl,fy⟩
     case round=>
      clear fy;obtain⟨jj,hw,rfl,rfl,HK⟩:=hrel;obtain⟨wz,hk⟩:∃wz,wz=wr:=⟨_,rfl⟩;subst hk;obtain⟨bw,cr⟩:=HK.out;have d4:=bw.size;replace cr:=B4 cr;by_cases hlt3:jj<f.params.length
      .have dc:(jj:Int)<(f.params.length:Int):=by omega
       have gn:(0:Int)<=(jj:Int):=by omega
       obtain⟨s,ft⟩:∃s,f.params[jj]?=some s:=⟨_,AN hlt3⟩;obtain⟨ps,bs,di,cy,-⟩:=b7.out;simp only[List.cons.injEq,and_true,true_and] at di;obtain⟨rfl,rfl⟩:=di;obtain⟨g3,o3,c3,e3,bg,fj,u0,u1,u2⟩:=Ld cy ft;simp only[Value.slice.injEq] at e3;obtain⟨rfl,-,rfl⟩:=e3;have h4:wo.heap[g3]?=w.heap[g3]?:=a0.out g3 fj bg.2.1 bg.2.2;have f2:w8.heap[g3]?=w.heap[g3]?:=(ae.block g3 (by omega) (by rintro (e | e | e);exact bg.2.1 e;exact bg.2.2 e;omega)).trans (b3.block g3 fj bg.2.1);have dv:=(bw.block g3 (by omega)).trans f2;replace u0:=(Ak dv).trans u0;replace u1:=(Ak dv).trans u1;replace u2:=(Ak dv).trans u2;have gz:g3<wz.heap.size:=by omega
       obtain⟨w9,fb⟩:∃w9,wz.alloc (.cells #[sE,sE,iv 0] 40)=w9:=⟨_,rfl⟩;obtain⟨w10,d8⟩:∃w10,((w9.setCell ⟨wz.heap.size,0,none⟩ (strV s.name)).setCell ⟨wz.heap.size,1,none⟩ (strV s.type)).setCell ⟨wz.heap.size,2,none⟩ (iv s.place)=w10:=⟨_,rfl⟩;have fk:Below wz.heap.size wz w9:=by rw[<-fb];exact (AF _ _).alloc (AD _) _
       have ds:w9.heap[wz.heap.size]?=some (.cells #[sE,sE,iv 0] 40 (0,0)):=by rw[<-fb];exact heap_new _ _
       have l9:wz.heap.size<w9.heap.size:=(AB ds).1;have b0:Below wz.heap.size wz w10:=by rw[<-d8];exact ((fk.setCell (p:=⟨wz.heap.size,0,none⟩) (AD _) _).setCell (p:=⟨wz.heap.size,1,none⟩) (AD _) _).setCell (p:=⟨wz.heap.size,2,none⟩) (AD _) _
       have ay:w10.heap[wz.heap.size]?=some (.cells #[strV s.name,strV s.type,iv s.place] 40 (0,0)):=by rw[<-d8];simp[World.setCell,Array.getElem?_modify,ds]
       have ht:wz.heap.size<w10.heap.size:=(AB ay).1;obtain⟨y0,y1,y2,z0,z1,z2⟩:=Az ds;obtain⟨c4,cl,c5,-⟩:=Az ay;have a4:f.params.drop jj=s :: f.params.drop (jj+1):=by
        obtain⟨hi,rfl⟩:=AK ft;exact drop_eq_getElem_cons hi
       have ex:Hid (B2=Ck.bind (Ck.need (decide (jj<8)) s.place 36) λ _=>Ck.params (jj+1) (f.params.drop (jj+1))):=by
        show _=_;rw[cr.out,a4,Ck.params]
       have aw:Below w8.heap.size w8 w10:=bw.trans (b0.mono d4);clear a4 ds ay fk dv f2 h4 cr HK cy;by_cases h8:jj<8
       rotate_left
       .have ct:decide ((jj:Int)<8)=false:=decide_eq_false (by omega);have hN:=Ao s.place 36 w10;have a3:=ab.out s.place 36 (λ j=>j=b\/j=mb\/j=nb) w10 (ae.trans (Fm.of_below (X:=λ _=>False) aw) (λ _ _ h=>h) (λ _ _ h=>h.elim)) (λ j _ e=>by rcases e with e | e | e;exact AI e;exact AJ e;omega) (by rw[cw.out,e0.out,ex.out,decide_eq_false h8];rfl);clear ab cq b5 bx ai cp aw b0 ae;go_wp2_with fail;refine hN.mono ?_;rintro e w7 ⟨rfl,rfl⟩;exact⟨rfl,a3⟩
       have ct:decide ((jj:Int)<8)=true:=decide_eq_true (by omega);have hN:=Av s.place 36 w10;have be:Hid (Below w8.heap.size w8 w10/\B2=Ck.params (jj+1) (f.params.drop (jj+1))):=⟨aw,by rw[ex.out,decide_eq_true h8];rfl⟩;clear ex aw b0;replace cq:=B4 cq;replace b5:=B4 b5;replace bx:=B4 bx;replace ai:=B4 ai;replace cp:=B4 cp;replace ae:=B4 ae;go_wp2_with fail;refine hN.mono ?_;rintro e w11 ⟨rfl,d7⟩;obtain rfl:=d7.symm;clear hN d7;go_wp2_with fail;go_roundg (f.params.length - (jj+1))
       case measure=>omega
       case rel=>exact⟨jj+1,by omega,rfl,by go_num,be⟩
      .have dc:¬(jj:Int)<(f.params.length:Int):=by omega
       have dd:Hid (A2=Ck.fns env' (q+1) (p.fns.drop (q+1))):=by
        show _=_;rw[e0.out,cr.out,drop_of_length_le (by omega)];rfl
       clear e0 cr HK;obtain⟨ps,bs,di,cy,-⟩:=b7.out;simp only[List.cons.injEq,and_true,true_and] at di;obtain⟨rfl,rfl⟩:=di;have dk:Since (λ j=>j<w.heap.size/\j≠b/\j≠mb) w w8:=⟨by omega,λ j h1 h2=>(ae.block j (by omega) (by rintro (e | e | e);exact h1.2.1 e;exact h1.2.2 e;omega)).trans (b3.block j h2 h1.2.1)⟩;have de:=SlRow.since cy dk;have dz:=λ w' (hb:Below wz.heap.size wz w')=>Al1 (f:=f) (ba:=ba) (bn:=f.body.length) (bc:=bc) (w:=w') (SlRow.since (SlRow.since de (Since.of_below bw)) (Since.of_below hb)) g6 h5 g5 g9
       replace dz:=B4 dz;have f8:=(bw.block _ g8).trans cp;have b8:=(bw.block b ci).trans ai;obtain⟨c4,cl,c5,du,dw,dq,dx,-⟩:=Cf f8;obtain⟨-,-,fi,-⟩:=Bh b8;have ec:wo.heap.size<wz.heap.size:=by omega
       have ej:b<wz.heap.size:=by omega
       have g2:w4.heap.size<=wz.heap.size:=by omega
       clear cy de dk cp ai;go_wp2_with fail;have hS:∀w':World,w'.heap[wo.heap.size]?=wz.heap[wo.heap.size]?->w'.heap[b]?=wz.heap[b]?->(w'.cell? ⟨wo.heap.size,0,none⟩=some (strV f.name)/\w'.cell? ⟨wo.heap.size,1,none⟩=some (.bool f.on)/\w'.cell? ⟨wo.heap.size,2,none⟩=some (.slice pa f.params.length pc)/\w'.cell? ⟨wo.heap.size,3,none⟩=some (strV f.result)/\w'.cell? ⟨wo.heap.size,4,none⟩=some sZ/\w'.cell? ⟨wo.heap.size,5,none⟩=some (.slice ba f.body.length bc)/\w'.cell? ⟨wo.heap.size,6,none⟩=some (iv f.place)/\w'.cell? ⟨b,2,none⟩=some (.slice ar q ax)):=λ w' h1 h2=>⟨(Ak h1).trans c4,(Ak h1).trans cl,(Ak h1).trans c5,(Ak h1).trans du,(Ak h1).trans dw,(Ak h1).trans dq,(Ak h1).trans dx,(Ak h2).trans fi⟩
       replace hS:=B4 hS;refine Vv.wpE_begin (S:=λ w'=>w'.cell? ⟨wo.heap.size,0,none⟩=some (strV f.name)/\w'.cell? ⟨wo.heap.size,1,none⟩=some (.bool f.on)/\w'.cell? ⟨wo.heap.size,2,none⟩=some (.slice pa f.params.length pc)/\w'.cell? ⟨wo.heap.size,3,none⟩=some (strV f.result)/\w'.cell? ⟨wo.heap.size,4,none⟩=some sZ/\w'.cell? ⟨wo.heap.size,5,none⟩=some (.slice ba f.body.length bc)/\w'.cell? ⟨wo.heap.size,6,none⟩=some (iv f.place)/\w'.cell? ⟨b,2,none⟩=some (.slice ar q ax)) (N:=λ j=>decide (j<10)) (by kernel_rfl) ?_;have f9:Below wz.heap.size wz wz.drew:=(AF _ _).drew;have a6:=hS.out wz.drew rfl rfl;have em:wz.heap.size<=wz.drew.heap.size:=AD _;generalize wz.drew=wd at *;clear c4 cl c5 du dw dq dx fi;refine Aa 90 [10,11,12,13] 0 (pt b 0) a6 ?_
       try simp only[aP]
       refine Aa 91 [2,3,4,5,9,10,11,12,13] 1 (pt b 0) a6 ?_
       try simp only[aP]
       refine Aa 92 [3,4,5,9,10,11,12,13] 2 (pt b 0) a6 ?_
       try simp only[aP]
       refine Aa 93 [4,5,9,10,11,12,13] 3 (pt b 0) a6 ?_
       try simp only[aP]
       refine Aa 94 [5,9,10,11,12,13] 4 (pt b 2) a6 ?_
       try simp only[aP]
       refine Aa 95 [9,10,11,12,13] 5 (.slice ar q ax) a6 ?_
       try simp only[aP]
       refine Aa 96 [7,8,9,10,11,12,13] 6 (.agg #[strV f.name,.bool f.on,.slice pa f.params.length pc,strV f.result,sZ,.slice ba f.body.length bc,iv f.place]) a6 ?_
       try simp only[aP]
       refine Ah 7 λ K hK=>?_
       go_simp;refine (dz.out wd f9).mono ?_;rintro e wa ⟨a9,c9,rfl,e9,dj⟩;have cu:Below wz.heap.size wz wa:=f9.trans (dj.mono em);refine hK _ _ (λ _=>hS.out wa (cu.block _ ec) (cu.block _ ej)) ?_;clear hK K dz
       try simp only[aP]
       obtain⟨wb,eg⟩:∃wb,wa.alloc (.cells #[strV f.name,.bool f.on,.slice a9 f.params.length c9,strV f.result,sZ,sZ,iv 0] 36)=wb:=⟨_,rfl⟩;have ce:Below wa.heap.size wa wb:=by rw[<-eg];exact (AF _ _).alloc (AD _) _
       have bv:wb.heap[wa.heap.size]?=some (.cells #[strV f.name,.bool f.on,.slice a9 f.params.length c9,strV f.result,sZ,sZ,iv 0] 36 (0,0)):=by rw[<-eg];exact heap_new _ _
       have cc:Below wz.heap.size wz wb:=cu.trans (ce.mono cu.size);refine Ah 8 λ K hK=>?_
       go_simp
       try rw[eg]
       refine hK _ _ (λ _=>hS.out wb (cc.block _ ec) (cc.block _ ej)) ?_;clear hK K
       try simp only[aP]
       have hp:=cu.size;have gw:=cc.size;have ak:Below w8.heap.size w8 wb:=bw.trans (cc.mono d4);have f0:Gf (λ j=>w4.heap.size<=j/\bj.ownBlock≠some j) wb (.slice ar q ax) ((p.fns.take q).map Es):=cq.below ak;have co:∀j,bj.ownBlock=some j->j<w8.heap.size:=λ j e=>(b5.own.lt e).2
       have fv:((p.fns.take q).map Es).length=q:=by simp;omega
       have fq:Cls wd.heap.size wb (.slice a9 f.params.length c9) (Ck.slots f.params):=e9.since (λ j e=>ce.block j (e9.lt e).2);have fd:E4 (λ j=>(w4.heap.size<=j/\bj.ownBlock≠some j)/\(Value.slice ar q ax).ownBlock≠some j) wb (Es f) [strV f.name,.bool f.on,.slice a9 f.params.length c9,strV f.result,sZ,sZ,iv 0]:=As5 (by
        have h1:(Ck.slots f.params).length=f.params.length:=by simp[Ck.slots]
        exact BD fq.row (λ j hj _=>by
         have hj:wd.heap.size<=j:=hj;refine⟨⟨by omega,λ e=>by have:=co j e;omega⟩,λ e=>?_⟩;exact cq.apart (by omega) e))
       obtain⟨ew,ee,w10,cm,bp,b0,db,eq,dm⟩:=f0.push (ad:=⟨wa.heap.size,0,none⟩) (cs:=[strV f.name,.bool f.on,.slice a9 f.params.length c9,strV f.result,sZ,sZ,iv 0]) (λ j u hj=>by
        have h1:wb.cell? ⟨wa.heap.size,j,none⟩=some u:=by rw[Bl bv,List.getElem?_toArray];exact hj
        by_cases h0:j=0
        .subst h0;simpa [Addr.add] using h1
        .simpa [Addr.add,h0] using h1) fd (by rw[fv];omega) (λ j hj=>⟨by omega,λ e=>by have:=co j e;omega⟩) 1 24
       rw[fv] at cm bp;have f7:(p.fns.take q).map Es ++ [Es f]=(p.fns.take (q+1)).map Es:=by rw[take_add_one,dt,map_append];rfl
       rw[f7] at bp;have b9:∀j,(Value.slice ar q ax).ownBlock=some j->w4.heap.size<=j/\bj.ownBlock≠some j/\j<wb.heap.size:=λ j e=>by
        obtain⟨ef,h1,h0,-⟩:=f0;have:=World.ownsRow.lt h1 j e;exact⟨(h0 j e).1,(h0 j e).2,this.2⟩
       have aq:∀j,j<wb.heap.size->(Value.slice ar q ax).ownBlock≠some j->w10.heap[j]?=wb.heap[j]?:=db;have ay:w10.heap[wo.heap.size]?=wz.heap[wo.heap.size]?:=(aq _ (by omega) e8).trans (cc.block _ ec);have bd:w10.heap[b]?=wz.heap[b]?:=(aq b (by omega) (λ e=>by have:=(b9 b e).1;omega)).trans (cc.block _ ej);have al:=bd.trans b8;obtain⟨w11,da⟩:∃w11,w10.setCell ⟨b,2,none⟩ (sL ew 0 (q+1) ee)=w11:=⟨_,rfl⟩;have ah:Fm (λ j=>j=b) w10 w11:=by rw[<-da];exact Fm.set (X:=λ j=>j=b) rfl 2 _
       have be:Hid (H2 w.heap.size b mb cb nb p.states.length v0 (.slice a2 p.states.length c2) lv0 num w4 p.fns A2 (q+1) env' bj (sL ew 0 (q+1) ee) (names ++ [f.name]) w11):=by
        have bi:∀j,j<w8.heap.size->j≠b->(Value.slice ar q ax).ownBlock≠some j->w11.heap[j]?=w8.heap[j]?:=λ j h1 h2 h3=>(ah.block j (by omega) h2).trans ((aq j (by omega) h3).trans (ak.block j h1))
        have e6:mb<w8.heap.size:=by omega
        have cd:=b0 0 (AO _) (λ _ _=>AO _);have gy:Fm (λ j=>j=b\/(Value.slice ar q ax).ownBlock=some j) w8 w11:=⟨(ah.os.trans cd.os).trans ak.os,(ah.tape.trans cd.tape).trans ak.tape,(ah.output.trans cd.output).trans ak.output,AP ak.size (AP eq ah.size),λ j h1 h2=>bi j h1 (λ e=>h2 (AI e)) (λ e=>h2 (AJ e))⟩;refine⟨bx.since (bi mb e6 (by omega) (λ e=>by have:=(b9 mb e).1;omega)),ey,b5.keep (λ j hj=>?_),ev,bf,?_,?_,ae.trans gy (λ _ _ h=>h) (λ j hj e=>?_),dd.out⟩
        .have gc:j<w8.heap.size:=by
          rcases hj with rfl | rfl | e
          .exact (AB b5.cbk).1
          .exact (AB b5.nbk).1
          .exact (b5.own.lt e).2
         refine bi j gc ?_ (λ e=>?_)
         .rintro rfl;rcases hj with e | e | e
          .omega
          .omega
          .have:=bf _ e;omega
         .have h9:=b9 j e;rcases hj with rfl | rfl | e2
          .omega
          .omega
          .exact h9.2.1 e2
        .rw[<-da];simp[World.setCell,Array.getElem?_modify,al]
        .exact bp.since ⟨ah.size,λ j hj hl=>ah.block j hl (by have:=hj.1;omega)⟩
        .rcases e with e | e
         .exact AI e
         .have:=(b9 j e).1;omega
       obtain⟨-,-,hu,-,-,-,-,-,hy,-⟩:=Bh al;have gb:b<w10.heap.size:=by omega
       have dl:=hS.out w10 ay bd;clear bp f0 fd fq e9 b9 aq db b0 dm bv cc ce cu dj ak cq b5 bx ae hS ay bd al ah f7 dd bf co b8 f8 bw b7 aa a0;refine Ah 9 λ K hK=>?_
       refine Ci _ _ 24 rfl _ _ rfl rfl _ _ cm ?_;refine hK _ _ (λ _=>dl) ?_;clear hK K dl cm
       try simp only[aP]
       refine Ah 10 λ K hK=>?_
       go_simp;refine hK _ _ (λ h=>by cases h) ?_;clear hK K
       try simp only[aP]
       refine Ah 11 λ K hK=>?_
       go_simp;refine hK _ _ (λ h=>by cases h) ?_;clear hK K
       try simp only[aP]
       refine Ah 12 λ K hK=>?_
       go_simp;refine hK _ _ (λ h=>by cases h) ?_;clear hK K
       try simp only[aP]
       refine Ah 13 λ K hK=>?_
       go_simp;refine hK _ _ (λ h=>by cases h) ?_;clear hK K
       try simp only[aP]
       refine Vv.wpE_done (by kernel_rfl) ?_;simp only[Exit.inBlock,Exit.then];refine ‹∀(a:Act) (w:World),_->_› _ _ ?_;go_wp2_with fail;go_roundg (p.fns.length - (q+1))
       case measure=>omega
       case rel=>exact⟨q+1,env',bj,_,some ⟨ew,0,none⟩,ee,by omega,rfl,by go_num,be⟩
    .have bl:¬(q:Int)<(p.fns.length:Int):=by omega
     have a3:V0 b mb v0 lv0 num p w R (.returned (.tuple #[])) wr:=by
      have hR:R=.inl envr:=by
       rw[cw.out,HI.out.ans,drop_of_length_le (by omega)];rfl
      have hf:∀j,(Value.slice ar q ax).ownBlock=some j->w4.heap.size<=j:=λ j e=>by
       obtain⟨ef,-,h0,-⟩:=HI.out.gf;exact (h0 j e).1
      have hg:=HI.out.gf;rw[take_of_length_le (by omega)] at hg;rw[hR];have eh:SlRow (λ j=>w3.heap.size<=j/\j<w4.heap.size) wr 3 (.slice a2 p.states.length c2) p.states.length ((Ck.slots p.states).flatMap Bi):=e7.since ⟨d9,λ j hj hl=>HI.out.fm.block j hl (by rintro (e | e | e) <;> omega)⟩;refine⟨rfl,_,_,HI.out.blk,HI.out.env,?_,hg.base (λ j hj _=>by have:=hj.1;show w.heap.size<=j;omega),b3.trans HI.out.fm (λ j _ e=>AI e) (λ j hj e=>by
       rcases e with e | e | e
       .exact AI e
       .exact AJ e
       .omega)⟩
      show SlRow _ _ 3 _ (Ck.slots p.states).length _;rw[fu];exact eh.base' (λ j hj _=>⟨by show w.heap.size<=j;omega,λ e=>by have:=hf j e;omega⟩)
     clear HI;go_wp2_with fail;exact bodyPost_end (results_none rfl _ _ _) rfl a3
structure PrSh(p:Px.Pr):Prop where
 l1:p.states.length<=40000
 l2:p.fns.length<=40000
 n1:∀s∈p.states,s.name.length<=1000/\s.type.length<=1000
 n2:∀f∈p.fns,f.name.length<=1000/\f.result.length<=1000/\f.params.length<=100000/\∀s∈f.params,s.name.length<=1000/\s.type.length<=1000
 sh:∀f∈p.fns,Ik f.body/\Nh f.body/\f.body.length<=1000000
theorem M1:∀(l:List Px.Sl) (env e:Ck.Env) (i:Nat),(∀s∈l,s.type.length<=1000)->D6 env->(∀x∈env,x.2.type.length<=1000)->Ck.states env i l=.inl e->D6 e/\∀x∈e,x.2.type.length<=1000
 | [],env,e,i,_,h1,h2,h=>by cases h;exact⟨h1,h2⟩
 | s :: r,env,e,i,ht,h1,h2,h=>by
  rw[Ck.states] at h;obtain⟨_,-,h⟩:=An h;obtain⟨e1,a2,h⟩:=An h;have:=Jg a2;subst this;refine M1 r _ e (i+1) (λ x hx=>ht x (AH _ hx)) (h1.more _ _ (by show (1:Nat)≠0;decide)) (λ x hx=>?_) h;rcases mem_append.1 hx with hx | hx
  .exact h2 x hx
  .simp at hx;subst hx;exact ht s (AC ..)
theorem Xv:∀(l:List Px.Fn) (env e:Ck.Env) (i:Nat),D6 env->(∀x∈env,x.2.type.length<=1000)->Ck.fns env i l=.inl e->D6 e/\∀x∈e,x.2.type.length<=1000
 | [],env,e,i,h1,h2,h=>by cases h;exact⟨h1,h2⟩
 | f :: r,env,e,i,h1,h2,h=>by
  rw[Ck.fns] at h;obtain⟨_,-,h⟩:=An h;obtain⟨e1,a2,h⟩:=An h;obtain⟨_,-,h⟩:=An h;have:=Jg a2;subst this;refine Xv r _ e (i+1) (h1.more _ _ (by show (2:Nat)≠0;decide)) (λ x hx=>?_) h;rcases mem_append.1 hx with hx | hx
  .exact h2 x hx
  .simp at hx;subst hx;simp
theorem Al3{hs:List Ck.Hd}{env:Ck.Env}{f:Px.Fn}{x:CF}(h:Ck.fn hs env i f=.inl x):x.name=f.name/\x.on=f.on/\x.params=Ck.slots f.params/\x.result=f.result:=by
 obtain⟨_,-,h⟩:=An h;obtain⟨_,-,h⟩:=An h;cases h;exact⟨rfl,rfl,rfl,rfl⟩
theorem Al4(f:Px.Fn):Jf (Es f)=Ck.hd f:=by
 unfold Jf Es Ck.hd Ck.slots;simp only[map_map];rfl
theorem Az1{hs:List Ck.Hd}{env:Ck.Env}{f:Px.Fn}{x:CF}(h:Ck.fn hs env i f=.inl x):Jf x=Ck.hd f:=by
 obtain⟨h1,h2,h3,h4⟩:=Al3 h;rw[<-Al4];unfold Jf Es;rw[h2,h3,h4]
theorem Ds.put{B:AS}{cur:Array Value}{l:List CF}{f:Px.Fn}{x:CF}{lv bv:Value}(h:Ds B w cur l)(s:Since B w w')(hi:l[i]?=some (Es f))(hx:x.name=f.name/\x.on=f.on/\x.params=Ck.slots f.params/\x.result=f.result)(ht:Xk B w' x.locals lv)(hb:Ks B w' x.body bv):Ds B w' ((cur.setIfInBounds (i*7+5) bv).setIfInBounds (i*7+4) lv) (l.set i x):=by
 have hl:=(AK hi).1;have a0:=h.1;refine⟨by simpa using h.1,λ j y hj=>?_⟩;by_cases e:i=j
 .subst e;rw[List.getElem?_set_self hl] at hj;cases hj;obtain⟨cs,⟨ps,ls,bs,rfl,m1,-,-⟩,k2⟩:=h.2 i _ hi;refine⟨[strV x.name,.bool x.on,ps,strV x.result,lv,bv,iv 0],⟨ps,lv,bv,rfl,by rw[hx.2.2.1];exact SlRow.since m1 s,ht,hb⟩,λ j hj=>?_⟩;obtain⟨x1,x2,x3,x4⟩:=hx;have hk:=k2 j hj
  match j,hj with
  | 0,_=>rw[Array.getElem?_setIfInBounds_ne (by omega),Array.getElem?_setIfInBounds_ne (by omega),hk,x1];rfl
  | 1,_=>rw[Array.getElem?_setIfInBounds_ne (by omega),Array.getElem?_setIfInBounds_ne (by omega),hk,x2];rfl
  | 2,_=>rw[Array.getElem?_setIfInBounds_ne (by omega),Array.getElem?_setIfInBounds_ne (by omega),hk];rfl
  | 3,_=>rw[Array.getElem?_setIfInBounds_ne (by omega),Array.getElem?_setIfInBounds_ne (by omega),hk,x4];rfl
  | 4,_=>rw[Array.getElem?_setIfInBounds_self_of_lt (by simp;omega)];rfl
  | 5,_=>rw[Array.getElem?_setIfInBounds_ne (by omega),Array.getElem?_setIfInBounds_self_of_lt (by omega)];rfl
  | 6,_=>rw[Array.getElem?_setIfInBounds_ne (by omega),Array.getElem?_setIfInBounds_ne (by omega),hk];rfl
 .rw[List.getElem?_set_ne e] at hj;obtain⟨cs,k1,k2⟩:=h.2 j y hj;refine⟨cs,k1.since s,λ m hm=>?_⟩;rw[Array.getElem?_setIfInBounds_ne (by omega),Array.getElem?_setIfInBounds_ne (by omega),k2 m hm]
theorem M2{B:AS}{l:List Px.Fn}(h:Gc B w l v)(hb:∀k,B k->B' k):Gc B' w l v:=by
 obtain⟨row,h1,h2⟩:=h;refine⟨row,h1.base hb,?_⟩;clear h1;induction l generalizing row with
 | nil=>exact h2
 | cons f r ih=>
  obtain⟨c1,c2,hc,⟨ps,bs,e1,e2,row2,e3,e4⟩,h3⟩:=h2;exact⟨c1,c2,hc,⟨ps,bs,e1,SlRow.base e2 hb,row2,e3.base hb,e4.base hb⟩,ih c2 h3⟩
structure PI(b mb gf nf fc base:Nat)(V:Int)(ss:Value)(env0:Ck.Env)(hs:List Ck.Hd)(w5:World)(fl:List Px.Fn)(A:Ck.R (List CF))(q num:Nat)(acc:List CF)(lv:Value)(cur:Array Value)(wr:World):Prop where
 blk:wr.heap[b]?=some (.cells #[iv V,ss,sL gf 0 nf fc,.map (some mb),iv num,lv] 62 (0,0))
 env:Bb wr mb env0
 row:wr.heap[gf]?=some (.cells cur 36 (0,0))
 fns:Ds (λ j=>base<=j/\j≠gf) wr cur (acc ++ (fl.drop q).map Es)
 len:acc.length=q
 hd:acc.map Jf=(fl.take q).map Ck.hd
 fm:Fm (Tn b mb gf) w5 wr
 ans:A=Ck.bind (Ck.bodies hs env0 q (fl.drop q)) λ xs=>.inl (acc ++ xs)
def Im(b mb:Nat)(V:Int)(w:World)(r:Ck.R CP)(e:Ending)(w':World):Prop:=
 match r with
 | .inl c=>e=.returned (.tuple #[])/\∃ss fs num lv,w'.heap[b]?=some (.cells #[iv V,ss,fs,.map (some mb),iv num,lv] 62 (0,0))/\Hy (From w.heap.size) w' c.states ss/\Aj0 (From w.heap.size) w' c.fns fs/\(c.version:Int)=V/\Fm (λ j=>j=b\/j=mb) w w'
 | .inr (a,er)=>e=.panicked (Ag a er)/\Fm (λ j=>j=b\/j=mb) w w'
theorem Qx{p:Px.Pr}{V:Int}(hV:Hid ((p.version:Int)=V)){sa fa:Option Addr}{sc fc:Nat}
  (hblk:w.heap[b]?=some (.cells #[iv 0,sZ,sZ,.map (some mb),iv 0,sZ] 62 (0,0))) (henv:Bb w mb []) (hbm:b≠mb)
  (hst:Ew (λ j=>j<w.heap.size/\j≠b/\j≠mb) w p.states (.slice sa p.states.length sc)) (hfn:Gc (λ j=>j<w.heap.size/\j≠b/\j≠mb) w p.fns (.slice fa p.fns.length fc))
  (hw:Px.WfP VW p) (hc:(Px.prT p).length<=4096) (he:Env8 w) (hsh:PrSh p) :
  AA 24 #[pt b 0,.agg #[iv V,.slice sa p.states.length sc,.slice fa p.fns.length fc]] w λ e w'=>Im b mb V w (Ck.check p) e w':=by
 have hb:b<w.heap.size:=(AB hblk).1;have hm:mb<w.heap.size:=henv.lt;obtain⟨R,HR⟩:∃R:Ck.R CP,Hid (Ck.check p=R):=⟨_,rfl⟩;rw[HR.out];obtain⟨w0,db⟩:∃w0,w.alloc (.cells #[iv V,.slice sa p.states.length sc,.slice fa p.fns.length fc] 26)=w0:=⟨_,rfl⟩;have b7:Below w.heap.size w w0:=by rw[<-db];exact (AF _ _).alloc (AD _) _
 have c1:w0.heap[w.heap.size]?=some (.cells #[iv V,.slice sa p.states.length sc,.slice fa p.fns.length fc] 26 (0,0)):=by rw[<-db];exact heap_new _ _
 have l0:w.heap.size<w0.heap.size:=(AB c1).1;have aw:=Ot (v:=.agg #[iv V,.slice sa p.states.length sc,.slice fa p.fns.length fc]) hw hc (he.below b7) (⟨_,_,by rw[hV.out],SlRow.since hst (Since.of_below b7),(by
  obtain⟨row,h1,h2⟩:=hfn;exact⟨row,h1.since (Since.of_below b7),h2.since (Since.of_below b7)⟩)⟩:E2 (λ j=>j<w.heap.size/\j≠b/\j≠mb) w0 p _)
 have cw:(((shT p).2:Int) != 11)=true:=by unfold shT;split <;> rfl
 generalize (shT p).2=er0 at *;generalize (shT p).1=tx0 at *;obtain⟨d0,d1,d2,-⟩:=Az c1;clear hw hc he;go_enter func24,ntmps24;go_wp2_with fail;refine aw.mono ?_;rintro e w1 ⟨rfl,c7⟩;clear aw d0 d1 d2;have bx:Below w.heap.size w w1:=b7.trans (c7.mono b7.size);have e3:=c7.size;have ct:=(c7.block _ l0).trans c1;obtain⟨d0,d1,d2,-⟩:=Az ct;have dr:w.heap.size<w1.heap.size:=by omega
 have hN:=Av 0 11 w1;go_wp2_with fail;refine hN.mono ?_;rintro e w2 ⟨rfl,bg⟩;obtain rfl:=bg.symm;clear hN bg cw c7 b7 c1;by_cases hv1:(1:Int)<=V
 rotate_left
 .have bp:decide ((1:Int)<=V)=false:=decide_eq_false hv1;have hN:=Ao 0 61 w1;have a0:Im b mb V w R (.panicked (Ag 0 61)) w1:=by
   have:R=.inr (0,61):=by
    rw[<-HR.out];unfold Ck.check;have h1:decide (1<=p.version)=false:=decide_eq_false (by have:=hV.out;omega);rw[h1];rfl
   rw[this];exact⟨rfl,BE bx⟩
  go_wp2_with fail
  refine hN.mono ?_;rintro e w7 ⟨rfl,rfl⟩;exact⟨rfl,a0⟩
 have bp:decide ((1:Int)<=V)=true:=decide_eq_true hv1;by_cases hv2:V<=1099511627776
 rotate_left
 .have bt:decide (V<=1099511627776)=false:=decide_eq_false hv2;have hN:=Ao 0 61 w1;have a0:Im b mb V w R (.panicked (Ag 0 61)) w1:=by
   have:R=.inr (0,61):=by
    rw[<-HR.out];unfold Ck.check;have h1:decide (p.version<=1099511627776)=false:=decide_eq_false (by have:=hV.out;omega);rw[h1,Bool.and_false];rfl
   rw[this];exact⟨rfl,BE bx⟩
  go_wp2_with fail
  refine hN.mono ?_;rintro e w7 ⟨rfl,rfl⟩;exact⟨rfl,a0⟩
 have bt:decide (V<=1099511627776)=true:=decide_eq_true hv2;have hN:=Av 0 61 w1;have ch:Hid (R=Ck.bind (Ck.bind (Ck.states [] 0 p.states) λ e1=>Ck.fns e1 0 p.fns) λ e2=>Ck.bind (Ck.bodies (p.fns.map Ck.hd) e2 0 p.fns) λ fs=>.inl ⟨p.version,Ck.slots p.states,fs⟩):=by
  show _=_;rw[<-HR.out,Ep];unfold Ck.check;have h1:decide (1<=p.version)=true:=decide_eq_true (by have:=hV.out;omega);have h2:decide (p.version<=1099511627776)=true:=decide_eq_true (by have:=hV.out;omega);rw[h1,h2];rfl
 clear HR;go_wp2_with fail;refine hN.mono ?_;rintro e w2 ⟨rfl,bg⟩;obtain rfl:=bg.symm;clear hN bg bp bt hv1 hv2;have a8:=(bx.block b hb).trans hblk;obtain⟨g0,-,-,-,-,-,f0,-⟩:=Bh a8;have eh:b<w1.heap.size:=by omega
 obtain⟨w3,de⟩:∃w3,w1.setCell ⟨b,0,none⟩ (iv V)=w3:=⟨_,rfl⟩;have cp:Fm (λ j=>j=b) w1 w3:=by rw[<-de];exact Fm.set (X:=λ j=>j=b) rfl 0 _
 have b0:w3.heap[b]?=some (.cells #[iv V,sZ,sZ,.map (some mb),iv (0:Nat),sZ] 62 (0,0)):=by rw[<-de];simp[World.setCell,Array.getElem?_modify,a8]
 have ak:Fm (λ j=>j=b) w w3:=(Fm.of_below (X:=λ _=>False) bx).trans cp (λ _ _ h=>h.elim) (λ _ _ h=>h);have dt:=cp.size;have cf:=(cp.block _ dr (by omega)).trans ct;have b6:Since (λ j=>j<w.heap.size/\j≠b/\j≠mb) w w3:=ak.since (λ j hj e=>hj.2.1 e);have bl:∀j,(j<w.heap.size/\j≠b/\j≠mb)->(j<w3.heap.size/\j≠b/\j≠mb):=λ j hj=>⟨by omega,hj.2⟩
 have bi:Ew (λ j=>j<w3.heap.size/\j≠b/\j≠mb) w3 p.states (.slice sa p.states.length sc):=SlRow.base (SlRow.since hst b6) bl;have b4:Gc (λ j=>j<w.heap.size/\j≠b/\j≠mb) w3 p.fns (.slice fa p.fns.length fc):=by
  obtain⟨row,h1,h2⟩:=hfn;exact⟨row,h1.since b6,h2.since b6⟩
 have au:Gc (λ j=>j<w3.heap.size/\j≠b/\j≠mb) w3 p.fns (.slice fa p.fns.length fc):=M2 b4 bl;have aq:Bb w3 mb []:=henv.since (ak.block mb hm (by omega));have cl:=Zl (num:=0) b0 aq hbm bi au hsh.l1 hsh.l2 hsh.n1 hsh.n2;rw[hV.out] at cl;have c6:∀e,(Ck.bind (Ck.states [] 0 p.states) λ e1=>Ck.fns e1 0 p.fns)=.inl e->D6 e/\∀x∈e,x.2.type.length<=1000:=λ e h=>by
  obtain⟨e1,h1,h2⟩:=An h;obtain⟨a1,a2⟩:=M1 p.states [] e1 0 (λ s hs=>(hsh.n1 s hs).2) (λ x hx=>by cases hx) (λ x hx=>by cases hx) h1;exact Xv p.fns e1 e 0 a1 a2 h2
 replace c6:=B4 c6;generalize (Ck.bind (Ck.states [] 0 p.states) λ e1=>Ck.fns e1 0 p.fns)=C at *;have e8:b<w3.heap.size:=by omega
 obtain⟨e0,e1,e2,-⟩:=Az cf;have dk:w.heap.size<w3.heap.size:=by omega
 clear bi au aq hst hfn a8 ct;go_wp2_with fail;refine cl.mono ?_;rintro e w5 hP;clear cl d0 d1 d2 e0 e1 e2 g0 f0;rcases C with env | ⟨a,er⟩
 rotate_left
 .obtain⟨cg,hF⟩:=hP;obtain rfl:=cg;have a0:Im b mb V w R (.panicked (Ag a er)) w5:=by
   rw[ch.out];exact⟨rfl,ak.trans hF (λ j _ e=>AI e) (λ _ _ h=>h)⟩
  exact⟨rfl,a0⟩
 obtain⟨rfl,ss,fs,a5,aa,al,ai,c0⟩:=hP;obtain⟨dl,dv⟩:=c6.out env rfl;have ds:=c0.size;have b5:Fm (λ j=>j=b\/j=mb) w w5:=ak.trans c0 (λ j _ e=>AI e) (λ _ _ h=>h);have dn:=(c0.block _ dk (by rintro (e | e) <;> omega)).trans cf;obtain⟨d0,d1,d2,-⟩:=Az dn;have ec:w.heap.size<w5.heap.size:=by omega
 have bn:Hid (R=Ck.bind (Ck.bodies (p.fns.map Ck.hd) env 0 p.fns) λ fs=>.inl ⟨p.version,Ck.slots p.states,fs⟩):=ch.out;have bf:Gc (λ j=>j<w.heap.size/\j≠b/\j≠mb) w5 p.fns (.slice fa p.fns.length fc):=by
  obtain⟨row,h1,h2⟩:=b4;have d3:Since (λ j=>j<w.heap.size/\j≠b/\j≠mb) w3 w5:=c0.since (λ j hj e=>by rcases e with e | e;exact hj.2.1 e;exact hj.2.2 e);exact⟨row,h1.since d3,h2.since d3⟩
 clear ch b4 c6 cf b0;rcases Nat.eq_zero_or_pos p.fns.length with hz | hpos
 .have hn:p.fns=[]:=length_eq_zero_iff.1 hz;have a0:Im b mb V w R (.returned (.tuple #[])) w5:=by
   rw[bn.out,hn];refine⟨rfl,ss,fs,0,_,a5,BD al (λ j hj _=>by have:w3.heap.size<=j:=hj.1;show w.heap.size<=j;omega),?_,hV.out,b5⟩;rw[hn] at ai;obtain⟨row,h1,h2⟩:=ai.row;exact⟨row,h1.base' (λ j hj _=>by have:w3.heap.size<=j:=hj;show w.heap.size<=j;omega),h2.base (λ j hj _=>by have:w3.heap.size<=j:=hj;show w.heap.size<=j;omega)⟩
  have eg:(p.fns.length:Int)=0:=by omega
  rw[hz] at d2;clear ai al a5 aa bf bn hn hz;go_wp2_with fail
  go_loopg [37] 0 (λ gh i wz=>i=iv 0/\wz=w5)
  case atStart=>exact⟨rfl,rfl⟩
  case round=>
   obtain⟨rfl,rfl⟩:=hrel;go_wp2_with fail;exact bodyPost_end (results_none rfl _ _ _) rfl a0
 obtain⟨gf,ab,bk,rfl,e7,ad,ae,aj,bo⟩:=ai.arr (by simpa using hpos);have bu:(p.fns.map Es).length=p.fns.length:=by simp
 rw[bu] at a5 al ae;have e5:w3.heap.size<=gf:=e7;obtain⟨A,HA⟩:∃A:Ck.R (List CF),Hid (Ck.bodies (p.fns.map Ck.hd) env 0 p.fns=A):=⟨_,rfl⟩;rw[HA.out] at bn;have d6:Hid (PI b mb gf p.fns.length ab w.heap.size V ss env (p.fns.map Ck.hd) w5 p.fns A 0 0 [] sZ bk w5):=⟨a5,aa,ad,by
  rw[nil_append,drop_zero];exact bo.base (λ j hj _=>⟨by have:w3.heap.size<=j:=hj.1;omega,hj.2⟩),rfl,rfl,Fm.refl _ _,by
  rw[drop_zero,HA.out];rcases A with x | e <;> rfl⟩
 have cc:=λ (j:Nat) (f:Px.Fn) (hj:p.fns[j]?=some f)=>Xu bf hj
 replace cc:=B4 cc;have df:gf<w5.heap.size:=(AB ad).1;clear ai bo ad aa HA bf;go_wp2_with fail;clear d0 d1 d2
 go_loopg [37] p.fns.length (λ gh ii wr=>∃q num acc la ln lc cur,q<=p.fns.length/\gh=p.fns.length - q/\ii=iv q/\Hid (PI b mb gf p.fns.length ab w.heap.size V ss env (p.fns.map Ck.hd) w5 p.fns A q num acc (.slice la ln lc) cur wr))
 case atStart=>exact⟨0,0,[],none,0,0,bk,AO _,rfl,rfl,d6⟩
 case round=>
  clear d6;obtain⟨q,num,acc,la,ln,lc,cur,hq,rfl,rfl,HI⟩:=hrel;have co:=HI.out.fm.size;by_cases hlt:q<p.fns.length
  .have cv:(q:Int)<(p.fns.length:Int):=by omega
   have ee:(0:Int)<=(q:Int):=by omega
   obtain⟨f,br⟩:∃f,p.fns[q]?=some f:=⟨_,AN hlt⟩;obtain⟨ga,oa,ca,pa,ba,pc,bc,ea,bb,ef,a3,bh⟩:=cc.out q f br;simp only[Value.slice.injEq] at ea;obtain⟨rfl,-,rfl⟩:=ea;have d9:=mem_of_getElem? br;have bd:∀j,j<w.heap.size->j≠b->j≠mb->wr.heap[j]?=w5.heap[j]?:=λ j h1 h2 h3=>HI.out.fm.block j (by omega) (by rintro (e | e | e) <;> omega)
   have a4:=bd ga bb.1 bb.2.1 bb.2.2;have u0:wr.cell? ⟨ga,oa+q*7,none⟩=some (strV f.name):=(Ak a4).trans (a3 0 _ rfl);have u1:=(Ak a4).trans (a3 1 _ rfl);have u2:=(Ak a4).trans (a3 2 _ rfl);have u3:=(Ak a4).trans (a3 3 _ rfl);have u4:=(Ak a4).trans (a3 4 _ rfl);have u5:=(Ak a4).trans (a3 5 _ rfl);have u6:=(Ak a4).trans (a3 6 _ rfl);have dy:ga<wr.heap.size:=by omega
   obtain⟨w7,d8⟩:∃w7,wr.alloc (.cells #[sE,.bool false,sZ,sE,sZ,sZ,iv 0] 36)=w7:=⟨_,rfl⟩;obtain⟨w6,cz⟩:∃w6,((((((w7.setCell ⟨wr.heap.size,0,none⟩ (strV f.name)).setCell ⟨wr.heap.size,1,none⟩ (.bool f.on)).setCell ⟨wr.heap.size,2,none⟩ (.slice pa f.params.length pc)).setCell ⟨wr.heap.size,3,none⟩ (strV f.result)).setCell ⟨wr.heap.size,4,none⟩ sZ).setCell ⟨wr.heap.size,5,none⟩ (.slice ba f.body.length bc)).setCell ⟨wr.heap.size,6,none⟩ (iv f.place)=w6:=⟨_,rfl⟩;have di:Below wr.heap.size wr w7:=by rw[<-d8];exact (AF _ _).alloc (AD _) _
   have c5:w7.heap[wr.heap.size]?=some (.cells #[sE,.bool false,sZ,sE,sZ,sZ,iv 0] 36 (0,0)):=by rw[<-d8];exact heap_new _ _
   have l7:wr.heap.size<w7.heap.size:=(AB c5).1;have b9:Below wr.heap.size wr w6:=by
    rw[<-cz];exact ((((((di.setCell (p:=⟨wr.heap.size,0,none⟩) (AD _) _).setCell (p:=⟨wr.heap.size,1,none⟩) (AD _) _).setCell (p:=⟨wr.heap.size,2,none⟩) (AD _) _).setCell (p:=⟨wr.heap.size,3,none⟩) (AD _) _).setCell (p:=⟨wr.heap.size,4,none⟩) (AD _) _).setCell (p:=⟨wr.heap.size,5,none⟩) (AD _) _).setCell (p:=⟨wr.heap.size,6,none⟩) (AD _) _
   have cq:w6.heap[wr.heap.size]?=some (.cells #[strV f.name,.bool f.on,.slice pa f.params.length pc,strV f.result,sZ,.slice ba f.body.length bc,iv f.place] 36 (0,0)):=by rw[<-cz];simp[World.setCell,Array.getElem?_modify,c5]
   have l6:wr.heap.size<w6.heap.size:=(AB cq).1;obtain⟨y0,y1,y2,y3,y4,y5,y6,z0,z1,z2,z3,z4,z5,z6⟩:=Cf c5;obtain⟨e6,dw,dm,e4,dx,dq,dz,-⟩:=Cf cq;have e9:=b9.size;have az:=(b9.block b (by omega)).trans HI.out.blk;have b3:Bb w6 mb env:=HI.out.env.since (b9.block mb (by omega));have ah:=(b9.block gf (by omega)).trans HI.out.row;have ci:(acc ++ (p.fns.drop q).map Es).length=p.fns.length:=by simp[HI.out.len];omega
   have a7:=HI.out.fns.since (w':=w6) (Since.of_below b9);have ag:(acc ++ (p.fns.drop q).map Es).map Jf=p.fns.map Ck.hd:=by
    rw[map_append,HI.out.hd,map_map,show (Jf ∘ Es)=Ck.hd from funext Al4,<-map_append,take_append_drop]
   have be:=(a7.base (B':=λ j=>j<w6.heap.size/\j≠b/\j≠mb) (λ j hj hl=>⟨hl,by have:=hj.1;omega,by have:=hj.1;omega⟩)).hds ah ⟨by omega,by omega,by omega⟩ (by rw[ci];exact ae) aj;rw[ag,ci] at be;have bq:p.fns.length*7<=cur.size:=by have:=a7.1;rw[ci] at this;exact this
   have av:E1 (λ j=>j<w6.heap.size/\j≠b/\j≠mb/\j≠gf) w6 f [strV f.name,.bool f.on,.slice pa f.params.length pc,strV f.result,sZ,.slice ba f.body.length bc,iv f.place]:=by
    have bj:Since (λ j=>j<w.heap.size/\j≠b/\j≠mb) w5 w6:=⟨by omega,λ j hj hl=>(b9.block j (by omega)).trans (bd j hj.1 hj.2.1 hj.2.2)⟩;obtain⟨ps,bs,du,m1,row2,m2,m3⟩:=bh;exact⟨ps,bs,du,SlRow.base (SlRow.since m1 bj) (λ j hj=>⟨by omega,hj.2.1,hj.2.2,by omega⟩),row2,(m2.since bj).base (λ j hj=>⟨by omega,hj.2.1,hj.2.2,by omega⟩),(m3.since bj).base (λ j hj=>⟨by omega,hj.2.1,hj.2.2,by omega⟩)⟩
   obtain⟨d4,d7,dc⟩:=hsh.sh f d9;have dd:(p.fns.map Ck.hd)[q]?=some (Ck.hd f):=by rw[List.getElem?_map,br];rfl
   have dj:KOk ⟨q,p.fns.map Ck.hd,f.result⟩ env:=⟨dl,dv,λ h hh=>(by obtain⟨g,hg,rfl⟩:=mem_map.1 hh;exact (hsh.n2 g hg).2.1),λ h hh t ht=>(by
    obtain⟨g,hg,rfl⟩:=mem_map.1 hh;obtain⟨s,hs,rfl⟩:=mem_map.1 ht;exact ((hsh.n2 g hg).2.2.2 s hs).2),by simp;omega,⟨_,dd,rfl⟩⟩
   have da:=Qw (Bc0 d4 d7 dc) az b3 ah bq be (by simp) ⟨ae,aj⟩ hlt dd av dj (λ s hs=>((hsh.n2 f d9).2.2.2 s hs).2) hbm (by omega) (by omega);have a6:p.fns.drop q=f :: p.fns.drop (q+1):=by
    obtain⟨hi,rfl⟩:=AK br;exact drop_eq_getElem_cons hi
   have cm:Hid (A=Ck.bind (Ck.fn (p.fns.map Ck.hd) env q f) λ x=>Ck.bind (Ck.bodies (p.fns.map Ck.hd) env (q+1) (p.fns.drop (q+1))) λ xs=>.inl (acc ++ (x :: xs))):=by
    show _=_;rw[HI.out.ans,a6,Ck.bodies,Ep];refine As2 _ (λ x=>?_);rw[Ep];rfl
   have c3:=λ x=>Al3 (hs:=p.fns.map Ck.hd) (env:=env) (i:=q) (f:=f) (x:=x)
   have c4:=λ x=>Az1 (hs:=p.fns.map Ck.hd) (env:=env) (i:=q) (f:=f) (x:=x)
   replace c3:=B4 c3;replace c4:=B4 c4;generalize Ck.fn (p.fns.map Ck.hd) env q f=D at *;have b8:Fm (Tn b mb gf) w5 w6:=HI.out.fm.trans (Fm.of_below (X:=λ _=>False) b9) (λ _ _ h=>h) (λ _ _ h=>h.elim);replace a7:=B4 a7;clear bd a4 c5 di cq az b3 ah be av bh a3 dj d4 d7 dc ag;go_wp2_with fail;refine da.mono ?_;rintro e w8 hP;clear da e6 dw dm e4 dx dq dz u0 u1 u2 u3 u4 u5 u6 y0 y1 y2 y3 y4 y5 y6 z0 z1 z2 z3 z4 z5 z6;rcases D with x | ⟨a,er⟩
   rotate_left
   .obtain⟨cg,hF⟩:=hP;obtain rfl:=cg;have a0:Im b mb V w R (.panicked (Ag a er)) w8:=by
     rw[bn.out,cm.out];exact⟨rfl,b5.trans (b8.trans hF (λ _ _ h=>h) (λ _ _ h=>h)) (λ _ _ h=>h) (λ j _ e=>by
      rcases e with e | e | e
      .exact AI e
      .exact AJ e
      .omega)⟩
    exact⟨rfl,a0⟩
   obtain⟨eb,a9,c9,rfl,am,ax,ar,af,ay,c2⟩:=hP;obtain⟨ce,c8,rfl,-,-⟩:=SlRow.val af;have cd:=c2.size;have cu:Hid (PI b mb gf p.fns.length ab w.heap.size V ss env (p.fns.map Ck.hd) w5 p.fns A (q+1) q (acc ++ [x]) (.slice ce x.locals.length c8) ((cur.setIfInBounds (q*7+5) (.slice a9 x.body.length c9)).setIfInBounds (q*7+4) (.slice ce x.locals.length c8)) w8):=by
    have cr:∀{wx:World} j,From w6.heap.size j->j<wx.heap.size->(w.heap.size<=j/\j≠gf):=λ {wx} j hj _=>⟨by have:w6.heap.size<=j:=hj;omega,by have:w6.heap.size<=j:=hj;omega⟩
    have bj:Since (λ j=>w.heap.size<=j/\j≠gf) w6 w8:=⟨cd,λ j hj hl=>c2.block j hl (by rintro (e | e | e);omega;omega;exact hj.2 e)⟩;have hi:(acc ++ (p.fns.drop q).map Es)[q]?=some (Es f):=by
     rw[List.getElem?_append_right (by rw[HI.out.len];exact Nat.le_refl _),HI.out.len,Nat.sub_self,a6];rfl
    have bw:=a7.out.put (lv:=.slice ce x.locals.length c8) (bv:=.slice a9 x.body.length c9) bj hi (c3.out x rfl) (BD af cr) (by
     obtain⟨row,h1,h2⟩:=ay;exact⟨row,h1.base' cr,h2.base cr⟩)
    have cj:(acc ++ (p.fns.drop q).map Es).set q x=(acc ++ [x]) ++ (p.fns.drop (q+1)).map Es:=by
     rw[set_append_right _ _ (by rw[HI.out.len];exact Nat.le_refl _),HI.out.len,Nat.sub_self,a6];simp
    rw[cj] at bw;refine⟨am,ax,ar,bw,by rw[length_append,HI.out.len];rfl,?_,b8.trans c2 (λ _ _ h=>h) (λ _ _ h=>h),?_⟩
    .rw[map_append,HI.out.hd,take_add_one,br,map_append];show _ ++ [Jf x]=_ ++ [Ck.hd f];rw[c4.out x rfl]
    .rw[cm.out];simp only[Ck.bind,append_assoc,singleton_append]
   clear am ax ar af ay c2 b8 cm c3 c4 a7 HI a6;go_wp2_with fail;go_roundg (p.fns.length - (q+1))
   case measure=>omega
   case rel=>exact⟨q+1,q,acc ++ [x],_,_,_,_,by omega,rfl,by go_num,cu⟩
  .have cv:¬(q:Int)<(p.fns.length:Int):=by omega
   have a0:Im b mb V w R (.returned (.tuple #[])) wr:=by
    have hA:A=.inl acc:=by
     rw[HI.out.ans,drop_of_length_le (by omega)];show Sum.inl (acc ++ [])=_;rw[append_nil]
    have hl:=HI.out.len;have ed:q=p.fns.length:=by omega
    have dh:=HI.out.fns;rw[drop_of_length_le (by omega),map_nil,append_nil] at dh;rw[bn.out,hA];have d5:=(dh.base (B':=From w.heap.size) (λ j hj _=>hj.1)).fns HI.out.row (by show w.heap.size<=gf;omega) (cap:=ab) (by omega) aj;have cy:acc.length=p.fns.length:=by omega
    rw[cy] at d5;refine⟨rfl,ss,sL gf 0 p.fns.length ab,num,_,HI.out.blk,?_,d5,hV.out,b5.trans HI.out.fm (λ _ _ h=>h) (λ j _ e=>by
     rcases e with e | e | e
     .exact AI e
     .exact AJ e
     .omega)⟩
    have h9:=SlRow.since al (w':=wr) ⟨co,λ j hj hl=>HI.out.fm.block j hl (by
     have:w3.heap.size<=j:=hj.1;rintro (e | e | e)
     .omega
     .omega
     .exact hj.2 (by rw[e];rfl))⟩
    exact BD h9 (λ j hj _=>by have:w3.heap.size<=j:=hj.1;show w.heap.size<=j;omega)
   clear HI;go_wp2_with fail;exact bodyPost_end (results_none rfl _ _ _) rfl a0
end
end Go.Proofs.YtpckmjfabiallaaGreatDoor
