/- Texts of ours, joined. -/
import Derived.Test.YtpckmjfabiallaaGreatDoorG03
import Derived.Deep.DrawnRows
import Derived.Deep.MidRow
set_option linter.unusedVariables false
set_option linter.unusedSimpArgs false
set_option maxRecDepth 100000
set_option maxHeartbeats 16000000
namespace Go.Proofs.YtpckmjfabiallaaGreatDoor
variable{B':Nat->Prop}{T:TypeId}{a:Act}{b f g i mb p sz:Nat}{cs:List Value}{sl v y0 y1 y2 y3 y4 y5:Value}{w w' w1:World}{x:List UInt8}
open List
open Tryz
section
open Go.RowKit
open Ck (CE CS CF CP Mng Env)
mutual
def Cu(B:AS)(w:World):CE->List Value->Prop
 | .mk k o n t s y args,cs=>∃sl row,cs=[iv k,iv o,iv n,.string ⟨t.toArray⟩,iv s,.string ⟨y.toArray⟩,sl,iv 0]/\SlRow B w 8 sl args.length row/\Aw B w args row
def Aw(B:AS)(w:World):List CE->List Value->Prop
 | [],cs=>cs=[]
 | e :: r,cs=>∃c1 c2,cs=c1 ++ c2/\Cu B w e c1/\Aw B w r c2
end
mutual
def C0(B:AS)(w:World):CS->List Value->Prop
 | .mk k s f n es b c,cs=>∃s1 s2 s3 r1 r2 r3,cs=[iv k,sE,iv s,.bool f,iv n,s1,s2,s3,iv 0]/\SlRow B w 8 s1 es.length r1/\Aw B w es r1/\SlRow B w 9 s2 b.length r2/\Au B w b r2/\SlRow B w 9 s3 c.length r3/\Au B w c r3
def Au(B:AS)(w:World):List CS->List Value->Prop
 | [],cs=>cs=[]
 | e :: r,cs=>∃c1 c2,cs=c1 ++ c2/\C0 B w e c1/\Au B w r c2
end
def Bi(s:List UInt8 × List UInt8):List Value:=[.string ⟨s.1.toArray⟩,.string ⟨s.2.toArray⟩,iv 0]
def Hy(B:AS)(w:World)(l:List (List UInt8 × List UInt8))(v:Value):Prop:=SlRow B w 3 v l.length (l.flatMap Bi)
def Xk(B:AS)(w:World)(l:List (List UInt8))(v:Value):Prop:=SlRow B w 1 v l.length (l.map λ t=>.string ⟨t.toArray⟩)
def Ks(B:AS)(w:World)(l:List CS)(v:Value):Prop:=∃row,SlRow B w 9 v l.length row/\Au B w l row
def E4(B:AS)(w:World)(f:CF)(cs:AR):Prop:=
 ∃ps ls bs,cs=[.string ⟨f.name.toArray⟩,.bool f.on,ps,.string ⟨f.result.toArray⟩,ls,bs,iv 0]/\Hy B w f.params ps/\Xk B w f.locals ls/\Ks B w f.body bs
def Cn(B:AS)(w:World):List CF->List Value->Prop
 | [],cs=>cs=[]
 | e :: r,cs=>∃c1 c2,cs=c1 ++ c2/\E4 B w e c1/\Cn B w r c2
def Aj0(B:AS)(w:World)(l:List CF)(v:Value):Prop:=∃row,SlRow B w 7 v l.length row/\Cn B w l row
def Hm(B:AS)(w:World)(p:CP)(v:Value):Prop:=∃ss fs,v=.agg #[iv p.version,ss,fs]/\Hy B w p.states ss/\Aj0 B w p.fns fs
mutual
theorem Cu.since{B:AS}{w w':World}(s:Since B w w'):∀{e:CE} {cs:AR},Cu B w e cs->Cu B w' e cs
 | .mk k o n t q y args,cs,h=>by
  rw[Cu] at h ⊢;obtain⟨sl,row,hc,hr,ha⟩:=h;exact⟨sl,row,hc,hr.since s,Aw.since s ha⟩
theorem Aw.since{B:AS}{w w':World}(s:Since B w w'):∀{l:List CE} {cs:AR},Aw B w l cs->Aw B w' l cs
 | [],cs,h=>by rw[Aw] at h ⊢;exact h
 | e :: r,cs,h=>by
  rw[Aw] at h ⊢;obtain⟨c1,c2,hc,h1,h2⟩:=h;exact⟨c1,c2,hc,Cu.since s h1,Aw.since s h2⟩
end
mutual
theorem C0.since{B:AS}{w w':World}(s:Since B w w'):∀{e:CS} {cs:AR},C0 B w e cs->C0 B w' e cs
 | .mk k q f n es b c,cs,h=>by
  rw[C0] at h ⊢;obtain⟨s1,s2,s3,r1,r2,r3,hc,a1,a2,a3,a4,a5,a6⟩:=h;exact⟨s1,s2,s3,r1,r2,r3,hc,a1.since s,a2.since s,a3.since s,Au.since s a4,a5.since s,Au.since s a6⟩
theorem Au.since{B:AS}{w w':World}(s:Since B w w'):∀{l:List CS} {cs:AR},Au B w l cs->Au B w' l cs
 | [],cs,h=>by rw[Au] at h ⊢;exact h
 | e :: r,cs,h=>by
  rw[Au] at h ⊢;obtain⟨c1,c2,hc,h1,h2⟩:=h;exact⟨c1,c2,hc,C0.since s h1,Au.since s h2⟩
end
theorem SlRow.base'{B:AS}{n:Nat}{row:AR}(h:SlRow B w sz v n row)(hb:∀k,B k->k<w.heap.size->B' k):SlRow B' w sz v n row:=by
 obtain⟨h1,h2⟩:=h;refine⟨h1,?_⟩;rcases h2 with h2 | ⟨g,o,cap,hv,hc,hm,hB,hg,r⟩
 .exact AI h2
 .exact AJ ⟨g,o,cap,hv,hc,hm,hb _ hB hg,hg,r⟩
abbrev BD:=@SlRow.base'
mutual
theorem Cu.base{B B':AS}{w:World}(hb:∀k,B k->k<w.heap.size->B' k):∀{e:CE} {cs:AR},Cu B w e cs->Cu B' w e cs
 | .mk k o n t q y args,cs,h=>by
  rw[Cu] at h ⊢;obtain⟨sl,row,hc,hr,ha⟩:=h;exact⟨sl,row,hc,hr.base' hb,Aw.base hb ha⟩
theorem Aw.base{B B':AS}{w:World}(hb:∀k,B k->k<w.heap.size->B' k):∀{l:List CE} {cs:AR},Aw B w l cs->Aw B' w l cs
 | [],cs,h=>by rw[Aw] at h ⊢;exact h
 | e :: r,cs,h=>by
  rw[Aw] at h ⊢;obtain⟨c1,c2,hc,h1,h2⟩:=h;exact⟨c1,c2,hc,Cu.base hb h1,Aw.base hb h2⟩
end
mutual
theorem C0.base{B B':AS}{w:World}(hb:∀k,B k->k<w.heap.size->B' k):∀{e:CS} {cs:AR},C0 B w e cs->C0 B' w e cs
 | .mk k q f n es b c,cs,h=>by
  rw[C0] at h ⊢;obtain⟨s1,s2,s3,r1,r2,r3,hc,a1,a2,a3,a4,a5,a6⟩:=h;exact⟨s1,s2,s3,r1,r2,r3,hc,a1.base' hb,a2.base hb,a3.base' hb,Au.base hb a4,a5.base' hb,Au.base hb a6⟩
theorem Au.base{B B':AS}{w:World}(hb:∀k,B k->k<w.heap.size->B' k):∀{l:List CS} {cs:AR},Au B w l cs->Au B' w l cs
 | [],cs,h=>by rw[Au] at h ⊢;exact h
 | e :: r,cs,h=>by
  rw[Au] at h ⊢;obtain⟨c1,c2,hc,h1,h2⟩:=h;exact⟨c1,c2,hc,C0.base hb h1,Au.base hb h2⟩
end
theorem Cu.cells{B:AS}{e:CE}(h:Cu B w e cs):∃(k o n s:Nat) (t y:AQ) (args:List CE) (sl:Value) (row:AR),e=.mk k o n t s y args/\cs=[iv k,iv o,iv n,.string ⟨t.toArray⟩,iv s,.string ⟨y.toArray⟩,sl,iv 0]/\SlRow B w 8 sl args.length row/\Aw B w args row:=by
 obtain⟨k,o,n,t,s,y,args⟩:=e;rw[Cu] at h;obtain⟨sl,row,h1,h2,h3⟩:=h;exact⟨k,o,n,s,t,y,args,sl,row,rfl,h1,h2,h3⟩
theorem Cu.len{B:AS}{e:CE}(h:Cu B w e cs):cs.length=8:=by
 obtain⟨k,o,n,s,t,y,args,sl,row,_,rfl,_⟩:=h.cells;rfl
theorem Aw.snoc{B:AS}{w:World}:∀{l:List CE} {row:AR} {e:CE} {cs:AR},Aw B w l row->Cu B w e cs->Aw B w (l ++ [e]) (row ++ cs)
 | [],row,e,cs,h1,h2=>by
  rw[Aw] at h1;subst h1;rw[nil_append,nil_append,Aw];exact⟨cs,[],by simp,h2,by rw[Aw]⟩
 | x :: r,row,e,cs,h1,h2=>by
  rw[Aw] at h1;obtain⟨c1,c2,rfl,h3,h4⟩:=h1;rw[cons_append,Aw];exact⟨c1,c2 ++ cs,by simp,h3,Aw.snoc h4 h2⟩
theorem Au.snoc{B:AS}{w:World}:∀{l:List CS} {row:AR} {e:CS} {cs:AR},Au B w l row->C0 B w e cs->Au B w (l ++ [e]) (row ++ cs)
 | [],row,e,cs,h1,h2=>by
  rw[Au] at h1;subst h1;rw[nil_append,nil_append,Au];exact⟨cs,[],by simp,h2,by rw[Au]⟩
 | x :: r,row,e,cs,h1,h2=>by
  rw[Au] at h1;obtain⟨c1,c2,rfl,h3,h4⟩:=h1;rw[cons_append,Au];exact⟨c1,c2 ++ cs,by simp,h3,Au.snoc h4 h2⟩
abbrev Id(m:Mng):Value:=.agg #[iv m.kind,iv m.slot,.string ⟨m.type.toArray⟩]
def Bb(w:World)(b:Nat)(env:Ck.Env):Prop:=∃(es:Array MapEntry) (clock:Nat),w.heap[b]?=some (.map es clock)/\es.toList.map (λ e=>(e.key,e.val))=env.map λ x=>(.string ⟨x.1.toArray⟩,Id x.2)
abbrev strV(x:AQ):Value:=.string ⟨x.toArray⟩
theorem Ar4(x n:AQ):((⟨x.toArray⟩:ByteArray) == ⟨n.toArray⟩)=decide (x=n):=by
 show (x.toArray == n.toArray)=decide (x=n);rw[Bool.eq_iff_iff];simp
def fnd:Ck.Env->List UInt8->Nat->Option (Nat × Mng)
 | [],_,_=>none
 |(n,m) :: r,x,i=>if n=x then some (i,m) else fnd r x (i+1)
theorem S8:∀(env:Ck.Env) (x:AQ) (i:Nat),Ck.look env x=((fnd env x i).map (·.2)).getD .no
 | [],x,i=>rfl
 |(n,m) :: r,x,i=>by
  rw[Ck.look,fnd];split
  .rfl
  .exact S8 r x (i+1)
theorem Kt(x:AQ):∀(env:Ck.Env) (es:List MapEntry) (i:Nat),es.map (λ e=>(e.key,e.val))=env.map (λ y=>(strV y.1,Id y.2))->Instr.findNow .string (strV x) es i=some ((fnd env x i).map λ p=>(p.1,Id p.2))
 | [],es,i,h=>by
  have:es=[]:=by simpa using h
  subst this;rfl
 |(n,m) :: r,[],i,h=>by simp at h
 |(n,m) :: r,e :: es,i,h=>by
  simp only[map_cons,List.cons.injEq,Prod.mk.injEq] at h;obtain⟨⟨h1,h2⟩,h3⟩:=h;rw[Instr.findNow,h1];simp only[Instr.sameNow,Ar4];rw[fnd];by_cases hx:x=n
  .rw[decide_eq_true hx,if_pos hx.symm,h2];rfl
  .rw[decide_eq_false hx,if_neg (λ e=>hx e.symm)];exact Kt x r es (i+1) h3
theorem Qo:prog.underlying 60=some (.map 9 125):=by kernel_rfl
theorem Xl:prog.underlying 9=some .string:=by kernel_rfl
theorem Aj1(w:World):(zeroValue 125).run prog w=.ok (Id .no) w:=by kernel_rfl
theorem Gp{env:Ck.Env}{es:List MapEntry}(h:es.map (λ e=>(e.key,e.val))=env.map (λ y=>(strV y.1,Id y.2)))(x:AQ)(w:World):(Instr.findKey 9 (strV x) es).run prog w=.ok ((fnd env x 0).map λ p=>(p.1,Id p.2)) w:=by
 unfold Instr.findKey;simp only[Sem.run_bind,run_underlying Xl,Result.andThen];rw[Kt x env es 0 h];rfl
theorem Hf(x:AQ)(e:Bool)(w:World):(Instr.checkKey e 10000 9 (strV x)).run prog w=.ok () w:=MapKept.run_checkKey (k:=strV x) Xl (by simp[MapKept.IsKey]) e _
theorem Fy{env:Ck.Env}(h:Bb w b env)(x:AQ):(Instr.lookup 60 (.map (some b)) (strV x) false).run prog w=.ok (Id (Ck.look env x)) w:=by
 obtain⟨es,a0,hb,he⟩:=h;have hf:=Gp he x w;have hl:=S8 env x 0;rcases hq:fnd env x 0 with _ | ⟨j,m⟩
 .rw[hq] at hf hl;simp[Instr.lookup,run_underlying Qo,MapKept.run_getObj_map hb,Hf,hf,Aj1,Result.andThen,hl];exact⟨rfl,rfl,rfl⟩
 .rw[hq] at hf hl;simp[Instr.lookup,run_underlying Qo,MapKept.run_getObj_map hb,Hf,hf,Result.andThen,hl]
def D6(env:Ck.Env):Prop:=∀x∈env,x.2.kind≠0
theorem fnd_none:∀(env:Ck.Env) (x:AQ) (i:Nat),D6 env->(Ck.look env x).kind=0->fnd env x i=none
 | [],x,i,_,_=>rfl
 |(n,m) :: r,x,i,h,hk=>by
  rw[Ck.look] at hk;rw[fnd];split
  .rename_i e;rw[if_pos e] at hk;exact absurd hk (h (n,m) (AC ..))
  .rename_i e;rw[if_neg e] at hk;exact fnd_none r x (i+1) (λ y hy=>h y (AH _ hy)) hk
def setB(w:World)(b:Nat)(o:Obj):World:={ w with heap:=w.heap.setIfInBounds b o }
theorem Vj{k:Nat}{o:Obj}(h:k≠b):(setB w b o).heap[k]?=w.heap[k]?:=by
 show (w.heap.setIfInBounds b o)[k]?=_;rw[Array.getElem?_setIfInBounds_ne (by omega)]
theorem Ou{o:Obj}(h:b<w.heap.size):(setB w b o).heap[b]?=some o:=by
 show (w.heap.setIfInBounds b o)[b]?=_;rw[Array.getElem?_setIfInBounds_self_of_lt h]
theorem Y8{o:Obj}:(setB w b o).heap.size=w.heap.size:=by
 show (w.heap.setIfInBounds b o).size=_;simp
theorem Vk{env:Ck.Env}(h:Bb w b env)(x:AQ)(m:Mng)(a3:fnd env x 0=none):∃o,(Instr.mapUpdate 60 (.map (some b)) (strV x) (Id m)).run prog w=.ok () (setB w b o)/\Bb (setB w b o) b (env ++ [(x,m)]):=by
 obtain⟨es,a0,hb,he⟩:=h;have hf:=Gp he x w;rw[a3] at hf;refine⟨.map (es.push { key:=strV x,val:=Id m,born:=a0 }) (a0+1),?_,_,_,Ou (AB hb).1,?_⟩
 .simp[Instr.mapUpdate,run_underlying Qo,MapKept.run_getObj_map hb,Hf,hf,MapKept.run_setObj_map _ hb,Result.andThen,setB]
 .simp[he]
theorem Xm:∀(pre:Ck.Env) (x:AQ) (m:Mng) (post:Ck.Env) (i:Nat),(∀y∈pre,y.1≠x)->fnd (pre ++ (x,m) :: post) x i=some (i+pre.length,m)
 | [],x,m,post,i,_=>by simp[fnd]
 |(n,k) :: r,x,m,post,i,h=>by
  rw[cons_append,fnd,if_neg (h (n,k) (mem_cons_self ..)),Xm r x m post (i+1) (λ y hy=>h y (mem_cons_of_mem _ hy))];simp;omega
theorem J5{α β:Type}(f:α->β):∀(l:List α) (i:Nat),(l.eraseIdx i).map f=(l.map f).eraseIdx i
 | [],i=>by simp
 | a :: r,0=>by simp
 | a :: r,i+1=>by simp[J5 f r i]
theorem Vl{pre post:Ck.Env}{m:Mng}(h:Bb w b (pre ++ (x,m) :: post))(hp:∀y∈pre,y.1≠x)(ty:TypeId):∃o,(Builtin.delete_ #[60,9] ty #[.map (some b),strV x]).run prog w=.ok (.tuple #[]) (setB w b o)/\Bb (setB w b o) b (pre ++ post):=by
 obtain⟨es,a0,hb,he⟩:=h;have hf:=Gp he x w;rw[Xm pre x m post 0 hp] at hf;have a4:es.size=pre.length+1+post.length:=by
  have:=congrArg List.length he;simp at this;omega
 refine⟨.map (es.eraseIdxIfInBounds (0+pre.length)) a0,?_,_,_,Ou (AB hb).1,?_⟩
 .simp[Builtin.delete_,run_underlying Qo,MapKept.run_getObj_map hb,Hf,hf,MapKept.run_setObj_map _ hb,Result.andThen,setB]
 .have a3:(es.eraseIdxIfInBounds (0+pre.length)).toList=es.toList.eraseIdx (0+pre.length):=by
   unfold Array.eraseIdxIfInBounds;rw[dif_pos (by omega)];simp
  have hE:(pre ++ (x,m) :: post).eraseIdx (0+pre.length)=pre ++ post:=by
   rw[Nat.zero_add,eraseIdx_append_of_length_le (Nat.le_refl _)];simp
  rw[a3,J5,he,<-J5,hE]
end
section
open Go.RowKit
theorem Cv(s:AQ)(w:World):AA 31 #[strV s] w λ e w'=>e=.returned (iv (Ck.bkind s))/\w'=w:=by
 have e1:(s == [108,101,110])=decide (s=[108,101,110]):=by rw[Bool.eq_iff_iff];simp
 have e2:(s == [104,97,115])=decide (s=[104,97,115]):=by rw[Bool.eq_iff_iff];simp
 have e3:(s == [112,117,115,104])=decide (s=[112,117,115,104]):=by rw[Bool.eq_iff_iff];simp
 have e4:(s == [115,116,114])=decide (s=[115,116,114]):=by rw[Bool.eq_iff_iff];simp
 generalize hk:Ck.bkind s=k;unfold Ck.bkind at hk;by_cases h1:s=[108,101,110]
 .rw[if_pos h1] at hk;rw[decide_eq_true h1] at e1;clear h1 e2 e3 e4;subst hk;go_enter func31,ntmps31;go_wp2;go_ret;exact⟨rfl,rfl⟩
 rw[if_neg h1] at hk;rw[decide_eq_false h1] at e1;by_cases h2:s=[104,97,115]
 .rw[if_pos h2] at hk;rw[decide_eq_true h2] at e2;clear h1 h2 e3 e4;subst hk;go_enter func31,ntmps31;go_wp2;go_ret;exact⟨rfl,rfl⟩
 rw[if_neg h2] at hk;rw[decide_eq_false h2] at e2;by_cases h3:s=[112,117,115,104]
 .rw[if_pos h3] at hk;rw[decide_eq_true h3] at e3;clear h1 h2 h3 e4;subst hk;go_enter func31,ntmps31;go_wp2;go_ret;exact⟨rfl,rfl⟩
 rw[if_neg h3] at hk;rw[decide_eq_false h3] at e3;by_cases h4:s=[115,116,114]
 .rw[if_pos h4] at hk;rw[decide_eq_true h4] at e4;clear h1 h2 h3 h4;subst hk;go_enter func31,ntmps31;go_wp2;go_ret;exact⟨rfl,rfl⟩
 rw[if_neg h4] at hk;rw[decide_eq_false h4] at e4;clear h1 h2 h3 h4;subst hk;go_enter func31,ntmps31;go_wp2;go_ret;exact⟨rfl,rfl⟩
theorem Gq(s:AQ)(w:World):AA 13 #[strV s] w λ e w'=>e=.returned (.bool (Ck.bkind s != 0))/\w'=w:=by
 have hk:=Cv s w;generalize Ck.bkind s=k at *;have e1:((k:Int) != 0)=(k != 0):=by
  by_cases h:k=0
  .subst h;rfl
  .rw[bne_iff_ne.2 h,bne_iff_ne];omega
 go_enter func13,ntmps13;go_wp2_with fail;refine hk.mono ?_;rintro e w1 ⟨rfl,rfl⟩;clear hk;go_wp2;go_ret;exact⟨by rw[<-e1];rfl,rfl⟩
def Ag(a e:Nat):List PanicEntry:=[{ v:=.iface 58 (.agg #[iv a,iv e]),recovered:=false }]
theorem Ao(p e:Nat)(w:World):AA 45 #[.bool false,iv p,iv e] w λ r w'=>r=.panicked (Ag p e)/\w'=w:=by
 go_enter func45,ntmps45;go_wp2;exact⟨rfl,rfl,rfl⟩
theorem Av(p e:Nat)(w:World):AA 45 #[.bool true,iv p,iv e] w λ r w'=>r=.returned (.tuple #[])/\w'=w:=by
 go_enter func45,ntmps45;go_wp2_with fail;exact bodyPost_end (results_none rfl _ _ _) rfl ⟨rfl,rfl⟩
theorem Ie(t:AQ)(ht:t.length<=9223372036854775807)(w:World):AA 170 #[strV t] w λ e w'=>e=.returned (.tuple #[strV (Ck.within t).1,strV (Ck.within t).2.1,.bool (Ck.within t).2.2])/\Below w.heap.size w w':=by
 have hL:=Vv.list_any t ht;have hM:=Vv.map_any t ht;unfold Ck.within;generalize Vv.elT t=a at *;generalize Vv.mpT t=m at *;obtain⟨a1,a2⟩:=a;obtain⟨m1,m2,m3⟩:=m;cases a2
 .simp only[Bool.false_eq_true,if_false];go_enter func170,ntmps170;go_wp2_with fail;refine (hL _).mono ?_;rintro e w1 ⟨rfl,a0⟩;clear hL;go_wp2_with fail;refine (hM _).mono ?_;rintro e w2 ⟨rfl,a3⟩;clear hM;go_wp2
  go_ret3
  exact⟨rfl,a0.trans (a3.mono a0.size)⟩
 .simp only[if_true];go_enter func170,ntmps170;go_wp2_with fail;refine (hL _).mono ?_;rintro e w1 ⟨rfl,a0⟩;clear hL hM;go_wp2
  go_ret3
  exact⟨rfl,a0⟩
theorem Lb(k:Nat)(t:AQ)(ht:t.length<=9223372036854775807)(w:World):AA 218 #[iv k,strV t] w λ e w'=>e=.returned (.tuple #[strV (Ck.sig k t).1,strV (Ck.sig k t).2.1,.bool (Ck.sig k t).2.2])/\Below w.heap.size w w':=by
 have hW:=Ie t ht;have hL:=Vv.list_any t ht;have hM:=Vv.map_any t ht;have e1:(t == [116,101,120,116])=(t == Ck.tText):=rfl;have e2:(t == [105,110,116])=(t == Ck.tInt):=rfl;unfold Ck.sig;generalize Vv.elT t=a at *;generalize Vv.mpT t=m at *;generalize Ck.within t=d at *;by_cases h8:k=8
 .rw[if_pos h8];have q1:((k:Int) == 8)=true:=by simp[h8]
  generalize (t == Ck.tText)=b1 at *;generalize (t == Ck.tInt)=b2 at *;clear h8 hL hM;obtain⟨d1,d2,d3⟩:=d;go_enter func218,ntmps218;go_wp2_with fail;refine (hW _).mono ?_;rintro e w1 ⟨rfl,a0⟩;clear hW;cases d3
  .go_wp2
   go_ret3
   exact⟨by cases b1 <;> rfl,a0⟩
  .go_wp2
   go_ret3
   exact⟨by cases b1 <;> rfl,a0⟩
 rw[if_neg h8];have q1:((k:Int) == 8)=false:=by simp;omega
 by_cases h9:k=9
 .rw[if_pos h9];have q2:((k:Int) == 9)=true:=by simp[h9]
  generalize (t == Ck.tText)=b1 at *;generalize (t == Ck.tInt)=b2 at *;clear h8 h9 hL hW;go_enter func218,ntmps218;go_wp2_with fail;refine (hM _).mono ?_;rintro e w1 ⟨rfl,a0⟩;clear hM;go_wp2
  go_ret3
  exact⟨rfl,a0⟩
 rw[if_neg h9];have q2:((k:Int) == 9)=false:=by simp;omega
 by_cases h10:k=10
 .rw[if_pos h10];have q3:((k:Int) == 10)=true:=by simp[h10]
  generalize (t == Ck.tText)=b1 at *;generalize (t == Ck.tInt)=b2 at *;clear h8 h9 h10 hM hW;go_enter func218,ntmps218;go_wp2_with fail;refine (hL _).mono ?_;rintro e w1 ⟨rfl,a0⟩;clear hL;go_wp2
  go_ret3
  exact⟨rfl,a0⟩
 rw[if_neg h10];have q3:((k:Int) == 10)=false:=by simp;omega
 generalize (t == Ck.tText)=b1 at *;generalize (t == Ck.tInt)=b2 at *;clear h8 h9 h10 hM hW hL;go_enter func218,ntmps218;go_wp2
 go_ret3
 exact⟨rfl,AF _ _⟩
theorem Aj5(o:Nat)(t:AQ)(w:World):AA 219 #[iv o,strV t] w λ e w'=>e=.returned (.tuple #[strV (Ck.operated o t).1,.bool (Ck.operated o t).2])/\w'=w:=by
 have e1:(t == [116,101,120,116])=(t == Ck.tText):=rfl;have e2:(t == [105,110,116])=(t == Ck.tInt):=rfl;have e3:(t == [98,111,111,108])=(t == Ck.tBool):=rfl;unfold Ck.operated;generalize (t == Ck.tText)=b1 at *;generalize (t == Ck.tInt)=b2 at *;generalize (t == Ck.tBool)=b3 at *;have a0:o=1\/o=2\/o=3\/o=4\/o=5\/o=6\/o=7\/o=8\/o=9\/(o≠1/\o≠2/\o≠3/\o≠4/\o≠5/\o≠6/\o≠7/\o≠8/\o≠9):=by omega
 rcases a0 with rfl | rfl | rfl | rfl | rfl | rfl | rfl | rfl | rfl | ⟨h1,h2,h3,h4,h5,h6,h7,h8,h9⟩
 iterate 9 (
  show AA 219 #[iv _,strV t] w _;cases b2 <;> (
  go_enter func219,ntmps219;go_wp2
  go_ret2
  exact⟨by cases b1 <;> rfl,rfl⟩))
 have q1:((o:Int) == 1)=false:=by simp;omega
 have q2:((o:Int) == 2)=false:=by simp;omega
 have q3:((o:Int) == 3)=false:=by simp;omega
 have q4:((o:Int) == 4)=false:=by simp;omega
 have q5:((o:Int) == 5)=false:=by simp;omega
 have q6:((o:Int) == 6)=false:=by simp;omega
 have q7:((o:Int) == 7)=false:=by simp;omega
 have q8:((o:Int) == 8)=false:=by simp;omega
 have q9:((o:Int) == 9)=false:=by simp;omega
 rw[if_neg (by omega),if_neg (by omega),if_neg (by omega),if_neg (by omega)];clear h1 h2 h3 h4 h5 h6 h7 h8 h9;go_enter func219,ntmps219;go_wp2
 go_ret2
 exact⟨rfl,rfl⟩
end
section
open Go.RowKit
open Ck (CE CS CF CP Mng)
theorem Y9{P:Program}{a3:Array Oper}{Q:Exit->Act->World->Prop}{md:Region.Mode}{S:World->Prop}{N:Nat->Bool}{oi:Oper}{a0:Array Bool}(d:Option Tmp)(W:Nat->Bool)(hi:a3[i]?=some oi)(hd:oi.dst=d)(hs:Region.noSelect a3=true)(hf:Region.free md a3 a0 i=true)(hr:(Region.ready md a3 a0).contains i=true)(hl:Vv.waitW md a3 N W a0 i=true)(a4:∀j,W j=true->j<a3.size)
  (hQ:∀c a w,Q (.panic c) (a.put oi.dst v) w->Q (.panic c) a w) (hw:Region.wanted oi (yielded a3 a.tmps)=true) (hy:∀w,S w->(execOp a.eval oi).run P w=.ok (.value v) w) (hS:S w) (h:Vv.wpE P md a3 Q S N f (a0.setIfInBounds i true) (a.put d v) w):Vv.wpE P md a3 Q S N (f+1) a0 a w:=Vv.wpE_takeW W hi hs hf hr hl a4 hQ hw hy hS (by rw[hd];exact h)
theorem Aa{P:Program}{a3:Array Oper}{Q:Exit->Act->World->Prop}{md:Region.Mode}{S:World->Prop}{N:Nat->Bool}{oi:Oper}{a0:Array Bool}(d:Tmp)(W:List Nat)(i:Nat)(v:Value)(hS:S w)(h:Vv.wpE P md a3 Q S N f (a0.setIfInBounds i true) (a.put (some d) v) w)(hi:a3[i]?=some oi:=by rfl)(hd:oi.dst=some d:=by rfl)(hy:∀w,S w->(execOp a.eval oi).run P w=.ok (.value v) w:=by intro w hS;(try dsimp only at hS);go_split_ands;go_simp)(hb:(Region.noSelect a3 && (Region.free md a3 a0 i && ((Region.ready md a3 a0).contains i && (Vv.waitW md a3 N (λ j=>W.contains j) a0 i && W.all (λ j=>decide (j<a3.size))))))=true:=by kernel_rfl)(hw:Region.wanted oi (yielded a3 a.tmps)=true:=by first | rfl | kernel_rfl)(hQ:∀c a w,Q (.panic c) (a.put oi.dst v) w->Q (.panic c) a w:=by exact λ _ _ _ h=>h):Vv.wpE P md a3 Q S N (f+1) a0 a w:=by
 obtain⟨hs,hb⟩:=Bool.and_eq_true_iff.1 hb;obtain⟨hf,hb⟩:=Bool.and_eq_true_iff.1 hb;obtain⟨hr,hb⟩:=Bool.and_eq_true_iff.1 hb;obtain⟨hl,a4⟩:=Bool.and_eq_true_iff.1 hb;exact Y9 (some d) (λ j=>W.contains j) hi hd hs hf hr hl (λ j hj=>by have:=all_eq_true.1 a4 j (by simpa using hj);simpa using this) hQ hw hy hS h
theorem Ah{P:Program}{a3:Array Oper}{Q:Exit->Act->World->Prop}{md:Region.Mode}{S:World->Prop}{N:Nat->Bool}{oi:Oper}{a0:Array Bool}(i:Nat)(h:∀K:Act->World->Prop,(∀a' w',(N i=true->S w')->Vv.wpE P md a3 Q S N f (a0.setIfInBounds i true) a' w'->K a' w')->oi.wp P a w K Q)(hi:a3[i]?=some oi:=by rfl)(hr:Region.ready md a3 a0=[i]:=by kernel_rfl)(hw:Region.wanted oi (yielded a3 a.tmps)=true:=by rfl):Vv.wpE P md a3 Q S N (f+1) a0 a w:=Vv.wpE_one hr hi hw h
theorem bcell{W:World}(hb:Below W.heap.size W w1):(∀b o,b<W.heap.size->w1.cell? ⟨b,o,none⟩=W.cell? ⟨b,o,none⟩)/\(∀b o,b<W.heap.size->w1.frozen? ⟨b,o,none⟩=W.frozen? ⟨b,o,none⟩):=
 ⟨λ b o h=>hb.cell (p:=⟨b,o,none⟩) h,λ b o h=>hb.frozen (p:=⟨b,o,none⟩) h⟩
theorem Az(h:w.heap[g]?=some (.cells #[y0,y1,y2] T (0,0))):w.cell? ⟨g,0,none⟩=some y0/\w.cell? ⟨g,1,none⟩=some y1/\w.cell? ⟨g,2,none⟩=some y2/\w.frozen? ⟨g,0,none⟩=false/\w.frozen? ⟨g,1,none⟩=false/\w.frozen? ⟨g,2,none⟩=false:=by
 refine⟨?_,?_,?_,?_,?_,?_⟩
 all_goals first | simp[World.cell?,h] | simp[World.frozen?,h]
theorem Bh(h:w.heap[g]?=some (.cells #[y0,y1,y2,y3,y4,y5] T (0,0))):w.cell? ⟨g,0,none⟩=some y0/\w.cell? ⟨g,1,none⟩=some y1/\w.cell? ⟨g,2,none⟩=some y2/\w.cell? ⟨g,3,none⟩=some y3/\w.cell? ⟨g,4,none⟩=some y4/\w.cell? ⟨g,5,none⟩=some y5/\w.frozen? ⟨g,0,none⟩=false/\w.frozen? ⟨g,1,none⟩=false/\w.frozen? ⟨g,2,none⟩=false/\w.frozen? ⟨g,3,none⟩=false/\w.frozen? ⟨g,4,none⟩=false/\w.frozen? ⟨g,5,none⟩=false:=by
 refine⟨?_,?_,?_,?_,?_,?_,?_,?_,?_,?_,?_,?_⟩
 all_goals first | simp[World.cell?,h] | simp[World.frozen?,h]
theorem Ac{y6 y7:Value}(h:w.heap[g]?=some (.cells #[y0,y1,y2,y3,y4,y5,y6,y7] T (0,0))):w.cell? ⟨g,0,none⟩=some y0/\w.cell? ⟨g,1,none⟩=some y1/\w.cell? ⟨g,2,none⟩=some y2/\w.cell? ⟨g,3,none⟩=some y3/\w.cell? ⟨g,4,none⟩=some y4/\w.cell? ⟨g,5,none⟩=some y5/\w.cell? ⟨g,6,none⟩=some y6/\w.cell? ⟨g,7,none⟩=some y7/\w.frozen? ⟨g,0,none⟩=false/\w.frozen? ⟨g,1,none⟩=false/\w.frozen? ⟨g,2,none⟩=false/\w.frozen? ⟨g,3,none⟩=false/\w.frozen? ⟨g,4,none⟩=false/\w.frozen? ⟨g,5,none⟩=false/\w.frozen? ⟨g,6,none⟩=false/\w.frozen? ⟨g,7,none⟩=false:=by
 refine⟨?_,?_,?_,?_,?_,?_,?_,?_,?_,?_,?_,?_,?_,?_,?_,?_⟩
 all_goals first | simp[World.cell?,h] | simp[World.frozen?,h]
abbrev Ov(w:World)(g:Nat)(x0 x1 x2:Value):World:=((w.setCell ⟨g,0,none⟩ x0).setCell ⟨g,1,none⟩ x1).setCell ⟨g,2,none⟩ x2
theorem Vo(w:World)(g:Nat)(x0 x1 x2:Value):(Ov w g x0 x1 x2).heap.size=w.heap.size:=by simp[Ov,World.setCell]
theorem Ta{n:Nat}(h:Below n w w')(hg:n<=g)(x0 x1 x2:Value):Below n w (Ov w' g x0 x1 x2):=(((h.setCell (p:=⟨g,0,none⟩) hg x0).setCell (p:=⟨g,1,none⟩) hg x1).setCell (p:=⟨g,2,none⟩) hg x2)
theorem Za(h:w.heap[g]?=some (.cells #[y0,y1,y2] T (0,0)))(x0 x1 x2:Value):(Ov w g x0 x1 x2).heap[g]?=some (.cells #[x0,x1,x2] T (0,0)):=by
 simp[Ov,World.setCell,Array.getElem?_modify,h]
theorem Vp(w:World)(x0 x1 x2:Value):∃wz w4,w.alloc (.cells #[iv 0,iv 0,sE] 125)=wz/\Ov wz w.heap.size x0 x1 x2=w4/\Below w.heap.size w w4/\w4.heap.size=w.heap.size+1/\wz.heap.size=w.heap.size+1/\Below w.heap.size w wz/\w4.heap[w.heap.size]?=some (.cells #[x0,x1,x2] 125 (0,0))/\wz.heap[w.heap.size]?=some (.cells #[iv 0,iv 0,sE] 125 (0,0)):=by
 have hb:Below w.heap.size w (w.alloc (.cells #[iv 0,iv 0,sE] 125)):=(AF _ _).alloc (AD _) _;refine⟨_,_,rfl,rfl,Ta hb (AD _) _ _ _,by rw[Vo];simp,by simp,hb,Za (heap_new _ _) _ _ _,heap_new _ _⟩
abbrev setc8(w:World)(g:Nat)(x0 x1 x2 x3 x4 x5 x6 x7:Value):World:=(((((((w.setCell ⟨g,0,none⟩ x0).setCell ⟨g,1,none⟩ x1).setCell ⟨g,2,none⟩ x2).setCell ⟨g,3,none⟩ x3).setCell ⟨g,4,none⟩ x4).setCell ⟨g,5,none⟩ x5).setCell ⟨g,6,none⟩ x6).setCell ⟨g,7,none⟩ x7
theorem A4(w:World)(g:Nat)(x0 x1 x2 x3 x4 x5 x6 x7:Value):(setc8 w g x0 x1 x2 x3 x4 x5 x6 x7).heap.size=w.heap.size:=by simp[setc8,World.setCell]
theorem A3{k:Nat}(hk:k≠g)(x0 x1 x2 x3 x4 x5 x6 x7:Value):(setc8 w g x0 x1 x2 x3 x4 x5 x6 x7).heap[k]?=w.heap[k]?:=by
 simp only[setc8];rw[Below.heap_setCell _ _ _ _ hk,Below.heap_setCell _ _ _ _ hk,Below.heap_setCell _ _ _ _ hk,Below.heap_setCell _ _ _ _ hk,Below.heap_setCell _ _ _ _ hk,Below.heap_setCell _ _ _ _ hk,Below.heap_setCell _ _ _ _ hk,Below.heap_setCell _ _ _ _ hk]
theorem Aq{n:Nat}(h:Below n w w')(hg:n<=g)(x0 x1 x2 x3 x4 x5 x6 x7:Value):Below n w (setc8 w' g x0 x1 x2 x3 x4 x5 x6 x7):=((((((((h.setCell (p:=⟨g,0,none⟩) hg x0).setCell (p:=⟨g,1,none⟩) hg x1).setCell (p:=⟨g,2,none⟩) hg x2).setCell (p:=⟨g,3,none⟩) hg x3).setCell (p:=⟨g,4,none⟩) hg x4).setCell (p:=⟨g,5,none⟩) hg x5).setCell (p:=⟨g,6,none⟩) hg x6).setCell (p:=⟨g,7,none⟩) hg x7)
theorem Ow{y6 y7:Value}(h:w.heap[g]?=some (.cells #[y0,y1,y2,y3,y4,y5,y6,y7] T (0,0)))(x0 x1 x2 x3 x4 x5 x6 x7:Value):(setc8 w g x0 x1 x2 x3 x4 x5 x6 x7).heap[g]?=some (.cells #[x0,x1,x2,x3,x4,x5,x6,x7] T (0,0)):=by
 simp[setc8,World.setCell,Array.getElem?_modify,h]
theorem Cc(w:World)(x0 x1 x2 x3 x4 x5 x6 x7:Value):∃wz w4,w.alloc (.cells #[iv 0,iv 0,iv 0,sE,iv 0,sE,sZ,iv 0] 48)=wz/\setc8 wz w.heap.size x0 x1 x2 x3 x4 x5 x6 x7=w4/\Below w.heap.size w w4/\w4.heap.size=w.heap.size+1/\wz.heap.size=w.heap.size+1/\Below w.heap.size w wz/\w4.heap[w.heap.size]?=some (.cells #[x0,x1,x2,x3,x4,x5,x6,x7] 48 (0,0))/\wz.heap[w.heap.size]?=some (.cells #[iv 0,iv 0,iv 0,sE,iv 0,sE,sZ,iv 0] 48 (0,0)):=by
 have hb:Below w.heap.size w (w.alloc (.cells #[iv 0,iv 0,iv 0,sE,iv 0,sE,sZ,iv 0] 48)):=(AF _ _).alloc (AD _) _;refine⟨_,_,rfl,rfl,Aq hb (AD _) _ _ _ _ _ _ _ _,by rw[A4];simp,by simp,hb,Ow (heap_new _ _) _ _ _ _ _ _ _ _,heap_new _ _⟩
def PaT(w:World)(tys:List (List UInt8))(v:Value):Prop:=∃row,SlRow (λ _=>True) w 3 v tys.length row/\∀(i:Nat) t,tys[i]?=some t->row[i*3+1]?=some (strV t)
def Zb(w:World)(hs:List Ck.Hd)(v:Value):Prop:=∃row,SlRow (λ _=>True) w 7 v hs.length row/\∀(i:Nat) h,hs[i]?=some h->∃(nm:ByteArray) (ps:Value) (la:Option Addr) (ln lc:Nat) (ba:Option Addr) (bn bc:Nat) (pl:Int),row[i*7]?=some (.string nm)/\row[i*7+1]?=some (.bool h.on)/\row[i*7+2]?=some ps/\row[i*7+3]?=some (strV h.result)/\row[i*7+4]?=some (.slice la ln lc)/\row[i*7+5]?=some (.slice ba bn bc)/\row[i*7+6]?=some (iv pl)/\PaT w h.params ps
theorem PaT.since{a0:List (List UInt8)}(h:PaT w a0 v)(s:Since (λ _=>True) w w'):PaT w' a0 v:=by
 obtain⟨row,h1,h2⟩:=h;exact⟨row,h1.since s,h2⟩
theorem Zb.since{hs:List Ck.Hd}(h:Zb w hs v)(s:Since (λ _=>True) w w'):Zb w' hs v:=by
 obtain⟨row,h1,h2⟩:=h;refine⟨row,h1.since s,λ i h hi=>?_⟩;obtain⟨nm,ps,la,ln,lc,ba,bn,bc,pl,a1,a2,a3,a4,a5,a6,a7,a8⟩:=h2 i h hi;exact⟨nm,ps,la,ln,lc,ba,bn,bc,pl,a1,a2,a3,a4,a5,a6,a7,a8.since s⟩
structure CkAt(w:World)(b mb:Nat)(c:Ck.Cx):Prop where
 blk:∃v0 ss fs ls,w.heap[b]?=some (.cells #[v0,ss,fs,.map (some mb),iv c.number,ls] 62 (0,0))/\Zb w c.heads fs
 env:Bb w mb c.env
theorem Bb.since{env:Ck.Env}(h:Bb w b env)(e:w'.heap[b]?=w.heap[b]?):Bb w' b env:=by
 obtain⟨es,cl,h1,h2⟩:=h;exact⟨es,cl,e.trans h1,h2⟩
theorem Bb.lt{env:Ck.Env}(h:Bb w b env):b<w.heap.size:=by
 obtain⟨es,cl,h1,h2⟩:=h;exact (AB h1).1
theorem CkAt.lt{c:Ck.Cx}(h:CkAt w b mb c):b<w.heap.size:=by
 obtain⟨v0,ss,fs,ls,h1,_⟩:=h.blk;exact (AB h1).1
theorem CkAt.keep{c:Ck.Cx}(h:CkAt w b mb c)(hb:Below w.heap.size w w'):CkAt w' b mb c:=by
 obtain⟨v0,ss,fs,ls,h1,h2⟩:=h.blk;exact⟨⟨v0,ss,fs,ls,(hb.block _ h.lt).trans h1,h2.since (Since.of_below hb)⟩,h.env.since (hb.block _ h.env.lt)⟩
def Ae(w:World)(r:Ck.R CE)(e:Ending)(w':World):Prop:=
 (match r with
 | .inl (.mk k o n t s y args)=>∃sl row,e=.returned (.agg #[iv k,iv o,iv n,strV t,iv s,strV y,sl,iv 0])/\SlRow (From w.heap.size) w' 8 sl args.length row/\Aw (From w.heap.size) w' args row
 | .inr (a,er)=>e=.panicked (Ag a er))/\Below w.heap.size w w'
theorem Ae.of{r:Ck.R CE}{e:Ending}(h:Ae w1 r e w')(hb:Below w.heap.size w w1):Ae w r e w':=by
 obtain⟨h1,h2⟩:=h;refine⟨?_,hb.trans (h2.mono hb.size)⟩;rcases r with⟨k,o,n,t,s,y,args⟩ | ⟨a,er⟩
 .obtain⟨sl,row,e1,e2,e3⟩:=h1;have hs:=hb.size;exact⟨sl,row,e1,e2.base' (λ k hk _=>AP hs hk),e3.base (λ k hk _=>AP hs hk)⟩
 .exact h1
theorem SlRow.nil8{B:AS}:SlRow B w 8 sZ 0 []:=⟨rfl,AI ⟨rfl,rfl⟩⟩
theorem Aw.nil{B:AS}:Aw B w [] []:=by rw[Aw]
end
section
open Go.RowKit
open Ck (CE CS CF CP Mng)
attribute [local go_sem ↓] Go.wp_at_zero Go.wp_at_succ
theorem Zc{c:Ck.Cx}(h:CkAt w b mb c)(t:AQ)(p:Nat)(k o n s:Int)(y:ByteArray)(sl:Value) :
  AA 192 #[pt b 0,.agg #[iv k,iv o,iv n,strV t,iv s,.string y,sl,iv p]] w λ e w'=>Ae w (Ck.name c t p) e w':=by
 obtain⟨w0,ah⟩:∃w0,w.alloc (.cells #[iv k,iv o,iv n,strV t,iv s,.string y,sl,iv p] 48)=w0:=⟨_,rfl⟩;have ab:Below w.heap.size w w0:=by rw[<-ah];exact (AF _ _).alloc (AD _) _
 have b8:w0.heap.size=w.heap.size+1:=by rw[<-ah];simp
 have b4:w0.heap[w.heap.size]?=some (.cells #[iv k,iv o,iv n,strV t,iv s,.string y,sl,iv p] 48 (0,0)):=by rw[<-ah];exact heap_new _ _
 obtain⟨w1,-,bc,-,-,-,bd,b0,-,bf⟩:=Cc w0 (iv 0) (iv 0) (iv 0) sE (iv 0) sE sZ (iv 0);have l0:w.heap.size<w0.heap.size:=by omega
 have l1:w0.heap.size<w1.heap.size:=by omega
 clear b8 bd;have ar:Below w.heap.size w w1:=ab.trans (b0.mono (by omega));have hc:=h.keep ar;have hb:=h.lt;obtain⟨v0,ss,fs,ls,ae,-⟩:=hc.blk;have a6:=hc.env;have bg:=(b0.block _ (by omega)).trans b4;obtain⟨c0,c1,c2,c3,c4,c5,-⟩:=Bh ae;obtain⟨d0,d1,d2,d3,d4,d5,d6,d7,-⟩:=Ac bg;have av:=λ w' (he:Bb w' mb c.env)=>Fy he t
 have aw:Ck.name c t p=Ck.bind (Ck.need ((Ck.look c.env t).kind != 0 && (Ck.look c.env t).kind != 2) p 33) λ _=>.inl (.mk (if (Ck.look c.env t).kind=1 then 5 else 4) 0 0 [] (Ck.look c.env t).slot (Ck.look c.env t).type []):=rfl
 rw[aw];generalize Ck.look c.env t=m at *;obtain⟨mk,ms,mt⟩:=m;simp only at *;obtain⟨R,HR⟩:∃R,Hid ((Ck.bind (Ck.need (mk != 0 && mk != 2) p 33) λ _=>.inl (CE.mk (if mk=1 then 5 else 4) 0 0 [] ms mt []))=R):=⟨_,rfl⟩;rw[HR.out];clear aw hc ae h;go_enter func192,ntmps192;go_wp2_with fail;refine Vv.wpE_begin (S:=λ w'=>w'.cell? ⟨b,3,none⟩=some (.map (some mb))/\w'.cell? ⟨w.heap.size,3,none⟩=some (strV t)/\Bb w' mb c.env) (N:=λ _=>true) (by kernel_rfl) ?_;have aa:w1.drew.cell? ⟨b,3,none⟩=some (.map (some mb))/\w1.drew.cell? ⟨w.heap.size,3,none⟩=some (strV t)/\Bb w1.drew mb c.env:=⟨c3,d3,a6⟩;refine Aa 7 [] 0 (pt b 0) aa ?_
 try simp only[aP]
 refine Aa 8 [] 1 (pt b 0) aa ?_
 try simp only[aP]
 refine Aa 9 [] 2 (pt b 3) aa ?_
 try simp only[aP]
 refine Aa 10 [] 3 (.map (some mb)) aa ?_
 try simp only[aP]
 refine Aa 11 [] 4 (pt w.heap.size 3) aa ?_
 try simp only[aP]
 refine Aa 12 [] 5 (strV t) aa ?_
 try simp only[aP]
 refine Aa 13 [] 6 (Id ⟨mk,ms,mt⟩) aa ?_ (hy:=(λ w' hS=>by obtain⟨g0,g1,g2⟩:=hS;have hr:=av w' g2;go_simp))
 try simp only[aP]
 obtain⟨wz,w3,ba,al,a7,aq,au,af,a3,a5⟩:=Vp w1.drew (iv mk) (iv ms) (strV mt);refine Ah 7 λ K hK=>?_
 go_simp;refine hK _ _ (λ _=>⟨((bcell af).1 _ _ (show b<w1.heap.size by omega)).trans c3,((bcell af).1 _ _ (show w.heap.size<w1.heap.size by omega)).trans d3,a6.since (af.block _ a6.lt)⟩) ?_;clear hK K
 try simp only[aP]
 replace a5:wz.heap[w1.heap.size]?=some (.cells #[iv 0,iv 0,sE] 125 (0,0)):=a5;replace a3:w3.heap[w1.heap.size]?=some (.cells #[iv mk,iv ms,strV mt] 125 (0,0)):=a3;replace al:((wz.setCell ⟨w1.heap.size,0,none⟩ (iv mk)).setCell ⟨w1.heap.size,1,none⟩ (iv ms)).setCell ⟨w1.heap.size,2,none⟩ (.string ⟨mt.toArray⟩)=w3:=al;have bi:w1.heap.size<w3.heap.size:=by have e:w3.heap.size=w1.heap.size+1:=aq;omega
 have b6:w1.heap.size<wz.heap.size:=by have e:wz.heap.size=w1.heap.size+1:=au;omega
 clear aq au;replace a7:Below w1.heap.size w1 w3:=⟨a7.os,a7.tape,a7.output,a7.size,a7.block⟩;obtain⟨z0,z1,z2,f0,f1,f2⟩:=Az a5;have k3:=((bcell a7).1 b 3 (by omega)).trans c3;have kd:=((bcell a7).1 w.heap.size 3 (by omega)).trans d3;refine Ah 8 λ K hK=>?_
 go_simp;refine hK _ _ (λ _=>⟨k3,kd,a6.since (a7.block _ a6.lt)⟩) ?_;clear hK K
 try simp only[aP]
 refine Vv.wpE_done (by kernel_rfl) ?_;have k7:=((bcell a7).1 w.heap.size 7 (by omega)).trans d7;obtain⟨n0,n1,n2,-⟩:=Az a3;have ax:Below w.heap.size w w3:=ar.trans (a7.mono (by omega));have ak:=(a7.block _ (by omega)).trans bf;clear z0 z1 z2 f0 f1 f2 b6 ba al aa av c0 c1 c2 c3 c4 c5 d0 d1 d2 d3 d4 d5 d6 d7 a6 ah bc a5 af;simp only[Exit.inBlock,Exit.then];refine ‹∀(a:Act) (w:World),_->_› _ _ ?_;have ad:Hid ((mk != 0 && mk != 2)=(((mk:Int) != 0) && ((mk:Int) != 2))):=by
  show _=_;have e0:((mk:Int) != 0)=(mk != 0):=by rw[Bool.eq_iff_iff];simp
  have e2:((mk:Int) != 2)=(mk != 2):=by rw[Bool.eq_iff_iff];simp;omega
  rw[e0,e2]
 cases hq:(mk != 0 && mk != 2)
 .have a0:Hid (Ae w R (.panicked (Ag p 33)) w3):=by rw[<-HR.out,hq];exact⟨rfl,ax⟩
  rw[hq] at ad;have hN:=Ao p 33 w3;have ab:((mk:Int) != 0)=false\/((mk:Int) != 0)=true:=by cases ((mk:Int) != 0) <;> simp
  rcases ab with ab | ab
  .go_wp2_with fail
   refine hN.mono ?_;rintro e w4 ⟨rfl,rfl⟩;exact⟨rfl,a0.out⟩
  .have b9:((mk:Int) != 2)=false:=by have:=ad.out;rw[ab] at this;simpa using this.symm
   go_wp2_with fail
   refine hN.mono ?_;rintro e w4 ⟨rfl,rfl⟩;exact⟨rfl,a0.out⟩
 .rw[hq] at ad;have ab:((mk:Int) != 0)=true:=by exact (Bool.and_eq_true_iff.1 ad.out.symm).1
  have b9:((mk:Int) != 2)=true:=by exact (Bool.and_eq_true_iff.1 ad.out.symm).2
  have hN:=Av p 33 w3;have Hq:Hid ((mk != 0 && mk != 2)=true):=hq;clear ad hq;go_wp2_with fail;refine hN.mono ?_;rintro e w4 ⟨rfl,b3⟩;obtain rfl:=b3.symm;clear hN;obtain⟨wy,w5,bn,bj,am,b7,b5,bh,a4,a8⟩:=Cc w3 (iv 4) (iv 0) (iv 0) sE (iv ms) (strV mt) sZ (iv 0);obtain⟨z0,z1,z2,z3,z4,z5,z6,z7,f0,f1,f2,f3,f4,f5,f6,f7⟩:=Ac a8;have bk:w3.heap.size<wy.heap.size:=by omega
  have bo:w3.heap.size<w5.heap.size:=by omega
  clear b7 b5;have p0:=((bcell am).1 w1.heap.size 0 (by omega)).trans n0;have az:Below w.heap.size w w5:=ax.trans (am.mono (by omega));have ag:=(am.block _ (by omega)).trans ak;by_cases h1:mk=1
  .have be:((mk:Int) == 1)=true:=by simp[h1]
   obtain⟨g0,g1,g2,g3,g4,g5,g6,g7,e0,e1,e2,e3,e4,e5,e6,e7⟩:=Ac a4;obtain⟨w6,ai⟩:∃w6,w5.setCell ⟨w3.heap.size,0,none⟩ (iv 5)=w6:=⟨_,rfl⟩;have a9:w6.heap[w3.heap.size]?=some (.cells #[iv 5,iv 0,iv 0,sE,iv ms,strV mt,sZ,iv 0] 48 (0,0)):=by
    rw[<-ai];simp[World.setCell,Array.getElem?_modify,a4]
   have bb:Below w.heap.size w w6:=by rw[<-ai];exact az.setCell (p:=⟨w3.heap.size,0,none⟩) (by show w.heap.size<=w3.heap.size;omega) _
   have ay:w6.heap[w0.heap.size]?=some (.cells #[iv 0,iv 0,iv 0,sE,iv 0,sE,sZ,iv 0] 48 (0,0)):=by rw[<-ai,Below.heap_setCell _ _ _ _ (by show w0.heap.size≠w3.heap.size;omega)];exact ag
   obtain⟨q0,q1,q2,q3,q4,q5,q6,q7,-⟩:=Ac a9;obtain⟨r0,r1,r2,r3,r4,r5,r6,r7,t0,t1,t2,t3,t4,t5,t6,t7⟩:=Ac ay;have bl:w3.heap.size<w6.heap.size:=(AB a9).1;have aj:w0.heap.size<w6.heap.size:=by omega
   have a0:Ae w R (.returned (.agg #[iv 5,iv 0,iv 0,sE,iv ms,strV mt,sZ,iv 0])) (setc8 w6 w0.heap.size (iv 5) (iv 0) (iv 0) sE (iv ms) (strV mt) sZ (iv 0)):=by
    rw[<-HR.out,Hq.out,if_pos h1];exact⟨⟨_,_,rfl,SlRow.nil8,Aw.nil⟩,Aq bb (by omega) _ _ _ _ _ _ _ _⟩
   clear h1 a9 ay ag ak a4 a8 a3;go_wp2_with fail;exact bodyPost_ret (by simp[results,results192,go_sem,aj,r0,r1,r2,r3,r4,r5,r6,r7]) rfl a0
  .have be:((mk:Int) == 1)=false:=by simp;omega
   obtain⟨q0,q1,q2,q3,q4,q5,q6,q7,-⟩:=Ac a4;obtain⟨r0,r1,r2,r3,r4,r5,r6,r7,t0,t1,t2,t3,t4,t5,t6,t7⟩:=Ac ag;have aj:w0.heap.size<w5.heap.size:=by omega
   have a0:Ae w R (.returned (.agg #[iv 4,iv 0,iv 0,sE,iv ms,strV mt,sZ,iv 0])) (setc8 w5 w0.heap.size (iv 4) (iv 0) (iv 0) sE (iv ms) (strV mt) sZ (iv 0)):=by
    rw[<-HR.out,Hq.out,if_neg h1];exact⟨⟨_,_,rfl,SlRow.nil8,Aw.nil⟩,Aq az (by omega) _ _ _ _ _ _ _ _⟩
   clear h1 ag ak a4 a8 a3;go_wp2_with fail;exact bodyPost_ret (by simp[results,results192,go_sem,aj,r0,r1,r2,r3,r4,r5,r6,r7]) rfl a0
abbrev exA(k o n:Nat)(t:AQ)(sl:Value)(p:Nat):Array Value:=#[iv k,iv o,iv n,strV t,iv 0,sE,sl,iv p]
structure CxOk(c:Ck.Cx):Prop where
 env:∀x∈c.env,x.2.type.length<=1000
 res:∀h∈c.heads,h.result.length<=1000
 pars:∀h∈c.heads,∀t∈h.params,t.length<=1000
 num:c.number<=c.heads.length
def EOk(x:Px.Ex):Prop:=∀(k o n:Nat) (t:AQ) (args:List Px.Ex) (p:Nat),x=.mk k o n t args p->∀(w:World) (b mb:Nat) (c:Ck.Cx) (B:AS) (sl:Value) (row:AR),CkAt w b mb c->CxOk c->SlRow B w 8 sl args.length row->Ai B w args row ->
  AA 168 #[pt b 0,.agg (exA k o n t sl p)] w λ e w'=>Ae w (Ck.cE c x) e w'
theorem Ae.inl{k o n s:Nat}{t y:AQ}{args:List CE}{e:Ending}(h:Ae w (.inl (.mk k o n t s y args)) e w'):∃sl row,e=.returned (.agg #[iv k,iv o,iv n,strV t,iv s,strV y,sl,iv 0])/\SlRow (From w.heap.size) w' 8 sl args.length row/\Aw (From w.heap.size) w' args row/\Below w.heap.size w w':=by
 obtain⟨⟨sl,row,h1,h2,h3⟩,h4⟩:=h;exact⟨sl,row,h1,h2,h3,h4⟩
theorem SlRow.val{B:AS}{n:Nat}{row:AR}(h:SlRow B w sz v n row):∃ao cap,v=.slice ao n cap/\n<=cap/\cap<=9223372036854775807:=by
 rcases h.2 with⟨rfl,rfl⟩ | ⟨g,o,cap,rfl,h1,h2,_⟩
 .exact⟨none,0,rfl,AD _,by omega⟩
 .exact⟨_,cap,rfl,h1,by unfold maxLen at h2;omega⟩
theorem A0(w:World)(x0 x1 x2 x3 x4 x5 x6 x7:Value):∃w0 w1,w.alloc (.cells #[x0,x1,x2,x3,x4,x5,x6,x7] 48)=w0/\w0.alloc (.cells #[iv 0,iv 0,iv 0,sE,iv 0,sE,sZ,iv 0] 48)=w1/\w.heap.size<w0.heap.size/\w0.heap.size<w1.heap.size/\Below w.heap.size w w1/\w1.heap[w.heap.size]?=some (.cells #[x0,x1,x2,x3,x4,x5,x6,x7] 48 (0,0))/\w1.heap[w0.heap.size]?=some (.cells #[iv 0,iv 0,iv 0,sE,iv 0,sE,sZ,iv 0] 48 (0,0)):=by
 obtain⟨w0,a0⟩:∃w0,w.alloc (.cells #[x0,x1,x2,x3,x4,x5,x6,x7] 48)=w0:=⟨_,rfl⟩;have a6:Below w.heap.size w w0:=by rw[<-a0];exact (AF _ _).alloc (AD _) _
 have a8:w0.heap.size=w.heap.size+1:=by rw[<-a0];simp
 have a7:w0.heap[w.heap.size]?=some (.cells #[x0,x1,x2,x3,x4,x5,x6,x7] 48 (0,0)):=by rw[<-a0];exact heap_new _ _
 obtain⟨w1,-,a4,-,-,-,a9,a3,-,a5⟩:=Cc w0 x0 x1 x2 x3 x4 x5 x6 x7;exact⟨w0,w1,a0,a4,by omega,by omega,a6.trans (a3.mono (by omega)),(a3.block _ (by omega)).trans a7,a5⟩
theorem Ca{x:Px.Ex}(hE:EOk x){k o n:Nat}{t:AQ}{args:List Px.Ex}(hx:x=.mk k o n t args p){c:Ck.Cx}{B:AS}{row:AR}(hc:CkAt w b mb c)(al:CxOk c)(hr:SlRow B w 8 sl args.length row)(ha:Ai B w args row)(ty:AQ) :
  AA 143 #[pt b 0,.agg (exA k o n t sl p),strV ty] w λ e w'=>Ae w (Ck.asked (Ck.cE c x,p) ty) e w':=by
 obtain⟨w0,w1,aq,am,l0,l1,a5,av,au⟩:=A0 w (iv k) (iv o) (iv n) (strV t) (iv 0) sE sl (iv p);have hC:=hE k o n t args p hx w1 b mb c B sl row (hc.keep a5) al (hr.since (Since.of_below a5)) (ha.since (Since.of_below a5));obtain⟨ao,cap,rfl,-,-⟩:=hr.val;obtain⟨d0,d1,d2,d3,d4,d5,d6,d7,-⟩:=Ac av;obtain⟨R,HR⟩:∃R,Hid (Ck.asked (Ck.cE c x,p) ty=R):=⟨_,rfl⟩;rw[HR.out];obtain⟨C,HC⟩:∃C,Hid (Ck.cE c x=C):=⟨_,rfl⟩;rw[HC.out] at hC HR;clear hc hr ha hE hx HC;go_enter func143,ntmps143;go_wp2_with fail;refine hC.mono ?_;rintro e w2 hP;clear hC aq am;rcases C with⟨k2,o2,n2,t2,s2,y2,a3⟩ | ⟨a,er⟩
 .obtain⟨sl2,row2,rfl,a8,ab,a9⟩:=hP.inl;obtain⟨wz,w3,ay,az,aa,ag,ai,ax,a7,a6⟩:=Cc w2 (iv k2) (iv o2) (iv n2) (strV t2) (iv s2) (strV y2) sl2 (iv 0);obtain⟨a2,c2,rfl,-,-⟩:=a8.val;have aj:=a9.size;have lz:w2.heap.size<wz.heap.size:=by omega
  have l3:w2.heap.size<w3.heap.size:=by omega
  clear ag ai;obtain⟨z0,z1,z2,z3,z4,z5,z6,z7,f0,f1,f2,f3,f4,f5,f6,f7⟩:=Ac a6;obtain⟨q0,q1,q2,q3,q4,q5,q6,q7,-⟩:=Ac a7;have a4:Below w1.heap.size w1 w3:=a9.trans (aa.mono aj);have p7:=((bcell a4).1 w.heap.size 7 (by omega)).trans d7;have ad:Below w.heap.size w w3:=a5.trans (a4.mono (by omega));have ak:=(a4.block _ (by omega)).trans au;obtain⟨r0,r1,r2,r3,r4,r5,r6,r7,t0,t1,aw,t3,t4,t5,t6,t7⟩:=Ac ak;have ar:w0.heap.size<w3.heap.size:=by omega
  cases hq:(y2 == ty)
  .have a0:Hid (Ae w R (.panicked (Ag p 35)) w3):=by
    rw[<-HR.out];show Ae w (Ck.bind (Ck.need (y2 == ty) p 35) λ _=>_) _ _;rw[hq];exact⟨rfl,ad⟩
   have hN:=Ao p 35 w3;clear hP a8 ab HR;go_wp2_with fail;refine hN.mono ?_;rintro e w4 ⟨rfl,rfl⟩;exact⟨rfl,a0.out⟩
  .have a0:Ae w R (.returned (.agg #[iv k2,iv o2,iv n2,strV t2,iv s2,strV y2,.slice a2 a3.length c2,iv 0])) (setc8 w3 w0.heap.size (iv k2) (iv o2) (iv n2) (strV t2) (iv s2) (strV y2) (.slice a2 a3.length c2) (iv 0)):=by
    rw[<-HR.out];show Ae w (Ck.bind (Ck.need (y2 == ty) p 35) λ _=>_) _ _;rw[hq];have ae:Since (From w1.heap.size) w2 (setc8 w3 w0.heap.size (iv k2) (iv o2) (iv n2) (strV t2) (iv s2) (strV y2) (.slice a2 a3.length c2) (iv 0)):=⟨by rw[A4];exact aa.size,λ j h1 h2=>by rw[A3 (by have:w1.heap.size<=j:=h1;omega)];exact aa.block j h2⟩;have af:∀j,From w1.heap.size j->j<(setc8 w3 w0.heap.size (iv k2) (iv o2) (iv n2) (strV t2) (iv s2) (strV y2) (.slice a2 a3.length c2) (iv 0)).heap.size->From w.heap.size j:=λ j hj _=>by show w.heap.size<=j;have:w1.heap.size<=j:=hj;omega
    exact⟨⟨_,_,rfl,(a8.since ae).base' af,(ab.since ae).base af⟩,Aq ad (by omega) _ _ _ _ _ _ _ _⟩
   have hN:=Av p 35 w3;clear hP a8 ab HR;go_wp2_with fail;refine hN.mono ?_;rintro e w4 ⟨rfl,ah⟩;obtain rfl:=ah.symm;clear hN;go_wp2_with fail;exact bodyPost_ret (by simp[results,results143,go_sem,ar,r0,r1,r2,r3,r4,r5,r6,r7]) rfl a0
 .obtain⟨hm,a9⟩:=hP;obtain rfl:=hm;have a0:Ae w R (.panicked (Ag a er)) w2:=by rw[<-HR.out];exact⟨rfl,a5.trans (a9.mono (by omega))⟩
  exact⟨rfl,a0⟩
theorem Bj{B:AS}{args:List Px.Ex}{row:AR}(hr:SlRow B w 8 sl args.length row)(ha:Ai B w args row){x:Px.Ex}(hi:args[0]?=some x):∃(g og cap k o n:Nat) (t:AQ) (a2:List Px.Ex) (p:Nat) (sl2:Value) (row2:AR),sl=sL g og args.length cap/\args.length<=cap/\g<w.heap.size/\x=.mk k o n t a2 p/\(w.cell? ⟨g,og,none⟩=some (iv k)/\w.cell? ⟨g,og+1,none⟩=some (iv o)/\w.cell? ⟨g,og+2,none⟩=some (iv n)/\w.cell? ⟨g,og+3,none⟩=some (strV t)/\w.cell? ⟨g,og+4,none⟩=some (iv 0)/\w.cell? ⟨g,og+5,none⟩=some sE/\w.cell? ⟨g,og+6,none⟩=some (sl2)/\w.cell? ⟨g,og+7,none⟩=some (iv p))/\SlRow B w 8 sl2 a2.length row2/\Ai B w a2 row2:=by
 have a6:=(AK hi).1;obtain⟨cs,a4,a3⟩:=ha.get hi;obtain⟨k,o,n,t,a2,p⟩:=x;rw[IsEx] at a4;obtain⟨sl2,row2,rfl,h2,h3⟩:=a4;rcases hr.2 with⟨_,h0⟩ | ⟨g,og,cap,hv,a5,a7,hB,hg,a0⟩
 .omega
 .refine⟨g,og,cap,k,o,n,t,a2,p,sl2,row2,hv,a5,hg,rfl,⟨a0 0 _ (a3 0 (by omega)),a0 1 _ (a3 1 (by omega)),a0 2 _ (a3 2 (by omega)),a0 3 _ (a3 3 (by omega)),a0 4 _ (a3 4 (by omega)),a0 5 _ (a3 5 (by omega)),a0 6 _ (a3 6 (by omega)),a0 7 _ (a3 7 (by omega))⟩,h2,h3⟩
theorem Em{B:AS}{args:List Px.Ex}{row:AR}(hr:SlRow B w 8 sl args.length row)(ha:Ai B w args row){x:Px.Ex}(hi:args[1]?=some x):∃(g og cap k o n:Nat) (t:AQ) (a2:List Px.Ex) (p:Nat) (sl2:Value) (row2:AR),sl=sL g og args.length cap/\args.length<=cap/\g<w.heap.size/\x=.mk k o n t a2 p/\(w.cell? ⟨g,og+8,none⟩=some (iv k)/\w.cell? ⟨g,og+9,none⟩=some (iv o)/\w.cell? ⟨g,og+10,none⟩=some (iv n)/\w.cell? ⟨g,og+11,none⟩=some (strV t)/\w.cell? ⟨g,og+12,none⟩=some (iv 0)/\w.cell? ⟨g,og+13,none⟩=some sE/\w.cell? ⟨g,og+14,none⟩=some (sl2)/\w.cell? ⟨g,og+15,none⟩=some (iv p))/\SlRow B w 8 sl2 a2.length row2/\Ai B w a2 row2:=by
 have a6:=(AK hi).1;obtain⟨cs,a4,a3⟩:=ha.get hi;obtain⟨k,o,n,t,a2,p⟩:=x;rw[IsEx] at a4;obtain⟨sl2,row2,rfl,h2,h3⟩:=a4;rcases hr.2 with⟨_,h0⟩ | ⟨g,og,cap,hv,a5,a7,hB,hg,a0⟩
 .omega
 .refine⟨g,og,cap,k,o,n,t,a2,p,sl2,row2,hv,a5,hg,rfl,⟨a0 8 _ (a3 0 (by omega)),a0 9 _ (a3 1 (by omega)),a0 10 _ (a3 2 (by omega)),a0 11 _ (a3 3 (by omega)),a0 12 _ (a3 4 (by omega)),a0 13 _ (a3 5 (by omega)),a0 14 _ (a3 6 (by omega)),a0 15 _ (a3 7 (by omega))⟩,h2,h3⟩
theorem En{n:Nat}{x0 x1 x2 x3 x4 x5 x6 x7:Value}(hn:n<=w.heap.size):SlRow (From n) (w.alloc (.cells #[x0,x1,x2,x3,x4,x5,x6,x7] 48)) 8 (sL w.heap.size 0 1 1) 1 [x0,x1,x2,x3,x4,x5,x6,x7]:=by
 refine⟨rfl,AJ ⟨w.heap.size,0,1,rfl,AD _,by unfold maxLen;omega,hn,by simp,λ j u hj=>?_⟩⟩;rw[Nat.zero_add];have hb:=heap_new w (.cells #[x0,x1,x2,x3,x4,x5,x6,x7] 48);have:(w.alloc (.cells #[x0,x1,x2,x3,x4,x5,x6,x7] 48)).cell? ⟨w.heap.size,j,none⟩=(#[x0,x1,x2,x3,x4,x5,x6,x7]:Array Value)[j]?:=by simp only[World.cell?,hb];rfl
 rw[this,<-hj,List.getElem?_toArray]
theorem Mr{n:Nat}{x0 x1 x2 x3 x4 x5 x6 x7 y6 y7:Value}(hn:n<=w.heap.size):SlRow (From n) (w.alloc (.cells #[x0,x1,x2,x3,x4,x5,x6,x7,y0,y1,y2,y3,y4,y5,y6,y7] 48)) 8 (sL w.heap.size 0 2 2) 2 [x0,x1,x2,x3,x4,x5,x6,x7,y0,y1,y2,y3,y4,y5,y6,y7]:=by
 refine⟨rfl,AJ ⟨w.heap.size,0,2,rfl,AD _,by unfold maxLen;omega,hn,by simp,λ j u hj=>?_⟩⟩;rw[Nat.zero_add];have hb:=heap_new w (.cells #[x0,x1,x2,x3,x4,x5,x6,x7,y0,y1,y2,y3,y4,y5,y6,y7] 48);have:(w.alloc (.cells #[x0,x1,x2,x3,x4,x5,x6,x7,y0,y1,y2,y3,y4,y5,y6,y7] 48)).cell? ⟨w.heap.size,j,none⟩=(#[x0,x1,x2,x3,x4,x5,x6,x7,y0,y1,y2,y3,y4,y5,y6,y7]:Array Value)[j]?:=by simp only[World.cell?,hb];rfl
 rw[this,<-hj,List.getElem?_toArray]
theorem De{B:AS}{k o n s:Nat}{t y:AQ}{args:List CE}{row:AR}(h1:SlRow B w 8 sl args.length row)(h2:Aw B w args row):Cu B w (.mk k o n t s y args) [iv k,iv o,iv n,strV t,iv s,strV y,sl,iv 0]:=by
 rw[Cu];exact⟨sl,row,rfl,h1,h2⟩
theorem Kz{B:AS}{x:CE}(h:Cu B w x cs):Aw B w [x] cs:=by
 rw[Aw];exact⟨cs,[],by simp,h,Aw.nil⟩
theorem Ay5{B:AS}{x y:CE}{ds:AR}(h:Cu B w x cs)(h2:Cu B w y ds):Aw B w [x,y] (cs ++ ds):=by
 rw[Aw];exact⟨cs,ds,rfl,h,Kz h2⟩
theorem Tc{x y:Px.Ex}(hE:EOk x)(bl:EOk y){k o n:Nat}{t:AQ}{c:Ck.Cx}{B:AS}{row:AR}(hc:CkAt w b mb c)(bi:CxOk c)(hr:SlRow B w 8 sl 2 row)(ha:Ai B w [x,y] row) :
  AA 197 #[pt b 0,.agg (exA k o n t sl p)] w λ e w'=>Ae w (Ck.binary k o p (Ck.cEs c [x,y])) e w':=by
 obtain⟨w0,w1,cd,ca,l0,l1,ag,cl,cj⟩:=A0 w (iv k) (iv o) (iv n) (strV t) (iv 0) sE sl (iv p);have b4:=hr.since (Since.of_below ag);have ax:=ha.since (Since.of_below ag);have bg:=hc.keep ag;obtain⟨g,og,cap,ka,oa,na,ta,aa,pa,c7,b7,rfl,b0,hg,rfl,⟨u0,u1,u2,u3,u4,u5,u6,u7⟩,ay,bo⟩:=Bj (args:=[x,y]) b4 ax rfl;obtain⟨g',cp,c1,kb,ob,nb,tb,ab,pb,ch,b8,e,-,-,rfl,⟨v0,v1,v2,v3,v4,v5,v6,v7⟩,bd,br⟩:=Em (args:=[_,y]) b4 ax rfl;simp only[Value.slice.injEq,Option.some.injEq,Addr.mk.injEq,and_true] at e;obtain⟨⟨rfl,rfl⟩,-,rfl⟩:=e;simp only[length_cons,length_nil,Nat.zero_add] at b0;have hC:=hE ka oa na ta aa pa rfl w1 b mb c B c7 b7 bg bi ay bo;have bj:=λ w' (hb:Below w1.heap.size w1 w')=>bl kb ob nb tb ab pb rfl w' b mb c B ch b8 (bg.keep hb) bi (bd.since (Since.of_below hb)) (br.since (Since.of_below hb))
 obtain⟨cq,bw,rfl,-,-⟩:=ay.val;obtain⟨cv,cf,rfl,-,-⟩:=bd.val;obtain⟨d0,d1,d2,d3,d4,d5,d6,d7,-⟩:=Ac cl;obtain⟨R,HR⟩:∃R,Hid (Ck.binary k o p (Ck.cEs c [.mk ka oa na ta aa pa,.mk kb ob nb tb ab pb])=R):=⟨_,rfl⟩;rw[HR.out];have am:Hid (R=Ck.bind (Ck.cE c (.mk ka oa na ta aa pa)) λ x=>Ck.bind (Ck.cE c (.mk kb ob nb tb ab pb)) λ y=>Ck.bind (Ck.need ((Ck.operated o x.type).2 && x.type == y.type) p 35) λ _=>.inl (.mk k o 0 [] 0 (Ck.operated o x.type).1 [x,y])):=by
  show _=_;rw[<-HR.out];simp only[Ck.binary,Ck.cEs,Ck.arg,getD_cons_zero,getD_cons_succ]
 clear HR;generalize Ck.cE c (.mk ka oa na ta aa pa)=C at *;generalize Ck.cE c (.mk kb ob nb tb ab pb)=C2 at *;have ct:([Px.Ex.mk ka oa na ta aa pa,.mk kb ob nb tb ab pb]:List Px.Ex).length=2:=rfl;have i0:(0:Int)<2:=by omega
 clear hc hr ha hE bl b4 ax bg ay bo bd br;simp only[length_cons,length_nil,Nat.zero_add] at *;go_enter func197,ntmps197;go_wp2_with fail;refine hC.mono ?_;rintro e w2 hP;clear hC cd ca;rcases C with⟨k2,o2,n2,t2,s2,y2,a6⟩ | ⟨a,er⟩
 rotate_left
 .obtain⟨hm,ar⟩:=hP;obtain rfl:=hm;have a0:Ae w R (.panicked (Ag a er)) w2:=by rw[am.out];exact⟨rfl,ag.trans (ar.mono (by omega))⟩
  exact⟨rfl,a0⟩
 obtain⟨sl2,row2,rfl,al,bf,ar⟩:=hP.inl;obtain⟨wz,w3,b9,ci,ba,bu,b3,bx,ad,a8⟩:=Cc w2 (iv k2) (iv o2) (iv n2) (strV t2) (iv s2) (strV y2) sl2 (iv 0);obtain⟨a2,c2,rfl,-,-⟩:=al.val;have c0:=ar.size;have lz:w2.heap.size<wz.heap.size:=by omega
 have l3:w2.heap.size<w3.heap.size:=by omega
 clear bu b3;obtain⟨z0,z1,z2,z3,z4,z5,z6,z7,f0,f1,f2,f3,f4,f5,f6,f7⟩:=Ac a8;have a3:Below w1.heap.size w1 w3:=ar.trans (ba.mono c0);obtain⟨bc,-⟩:=bcell a3;have g1:g<w3.heap.size:=by have:=a3.size;omega
 rw[<-bc w.heap.size _ (by omega)] at d0 d1 d2 d3 d4 d5 d6 d7;rw[<-bc g _ hg] at v0 v1 v2 v3 v4 v5 v6 v7;have bs:=bj w3 a3;clear u0 u1 u2 u3 u4 u5 u6 u7 hP bj bc;go_wp2_with fail;refine bs.mono ?_;rintro e w4 hP;clear bs b9 ci z0 z1 z2 z3 z4 z5 z6 z7 f0 f1 f2 f3 f4 f5 f6 f7 v0 v1 v2 v3 v4 v5 v6 v7;rcases C2 with⟨k4,o4,n4,t4,s4,y4,a7⟩ | ⟨a,er⟩
 rotate_left
 .obtain⟨hm,aw⟩:=hP;obtain rfl:=hm;have a0:Ae w R (.panicked (Ag a er)) w4:=by rw[am.out];exact⟨rfl,ag.trans ((a3.trans (aw.mono a3.size)).mono (by omega))⟩
  exact⟨rfl,a0⟩
 obtain⟨c8,cc,rfl,av,az,aw⟩:=hP.inl;obtain⟨wz,w5,b9,ce,be,c3,b3,bx,ae,a8⟩:=Cc w4 (iv k4) (iv o4) (iv n4) (strV t4) (iv s4) (strV y4) c8 (iv 0);obtain⟨a4,c4,rfl,-,-⟩:=av.val;have cg:=aw.size;have lz:w4.heap.size<wz.heap.size:=by omega
 have l5:w4.heap.size<w5.heap.size:=by omega
 clear c3 b3;obtain⟨z0,z1,z2,z3,z4,z5,z6,z7,f0,f1,f2,f3,f4,f5,f6,f7⟩:=Ac a8;have a5:Below w3.heap.size w3 w5:=aw.trans (be.mono cg);obtain⟨bc,-⟩:=bcell a5;have ai:=a3.size;rw[<-bc w.heap.size _ (by omega)] at d0 d1 d2 d3 d4 d5 d6 d7;have a9:=(a5.block _ (by omega)).trans ad;obtain⟨q0,q1,q2,q3,q4,q5,q6,q7,-⟩:=Ac a9;obtain⟨m0,m1,m2,m3,m4,m5,m6,m7,-⟩:=Ac ae;have au:Below w.heap.size w w5:=ag.trans ((a3.trans (a5.mono ai)).mono (by omega));have bk:=((a3.trans (a5.mono ai)).block _ (by omega)).trans cj;have hO:=Aj5 o y2 w5;have cw:w2.heap.size<w5.heap.size:=by omega
 generalize hop:Ck.operated o y2=op at *;obtain⟨aq,bb⟩:=op;have ak:Hid (R=Ck.bind (Ck.need (bb && y2 == y4) p 35) λ _=>.inl (.mk k o 0 [] 0 aq [.mk k2 o2 n2 t2 s2 y2 a6,.mk k4 o4 n4 t4 s4 y4 a7])):=by
  show _=_;rw[am.out];show Ck.bind (Ck.need ((Ck.operated o y2).2 && y2 == y4) p 35) (λ _=>Sum.inl (CE.mk k o 0 [] 0 (Ck.operated o y2).1 _))=_;rw[hop]
 clear hP am hop bc;go_wp2_with fail;refine hO.mono ?_;rintro e w6 ⟨rfl,bv⟩;obtain rfl:=bv.symm;clear hO b9 ce z0 z1 z2 z3 z4 z5 z6 z7 f0 f1 f2 f3 f4 f5 f6 f7;cases hq:(bb && y2 == y4)
 .have a0:Hid (Ae w R (.panicked (Ag p 35)) w5):=by rw[ak.out,hq];exact⟨rfl,au⟩
  have hN:=Ao p 35 w5;clear ak al bf av az;cases bb
  .go_wp2_with fail
   refine hN.mono ?_;rintro e w7 ⟨rfl,rfl⟩;exact⟨rfl,a0.out⟩
  .have c9:(y2 == y4)=false:=by simpa using hq
   clear hq;go_wp2_with fail;refine hN.mono ?_;rintro e w7 ⟨rfl,rfl⟩;exact⟨rfl,a0.out⟩
 .obtain⟨rfl,c9⟩:=Bool.and_eq_true_iff.1 hq;have hN:=Av p 35 w5;rw[hq] at ak;clear hq;go_wp2_with fail;refine hN.mono ?_;rintro e w7 ⟨rfl,cm⟩;obtain rfl:=cm.symm;clear hN;obtain⟨w8,bp⟩:∃w8,w5.alloc (.cells #[iv k2,iv o2,iv n2,strV t2,iv s2,strV y2,.slice a2 a6.length c2,iv 0,iv k4,iv o4,iv n4,strV t4,iv s4,strV y4,.slice a4 a7.length c4,iv 0] 48)=w8:=⟨_,rfl⟩;have ah:Below w5.heap.size w5 w8:=by rw[<-bp];exact (AF _ _).alloc (AD _) _
  have b5:=(ah.block _ (by omega)).trans bk;obtain⟨r0,r1,r2,r3,r4,r5,r6,r7,t0,t1,co,t3,cu,t5,t6,t7⟩:=Ac b5;have c6:w0.heap.size<w8.heap.size:=(AB b5).1;have a0:Ae w R (.returned (.agg #[iv k,iv o,iv 0,sE,iv 0,strV aq,sL w5.heap.size 0 2 2,iv 0])) (setc8 w8 w0.heap.size (iv k) (iv o) (iv 0) sE (iv 0) (strV aq) (sL w5.heap.size 0 2 2) (iv 0)):=by
   rw[ak.out];have b6:∀{n:Nat} {wx:World},w0.heap.size<n->wx.heap.size<=w8.heap.size->(∀j,n<=j->j<wx.heap.size->w8.heap[j]?=wx.heap[j]?)->Since (From n) wx (setc8 w8 w0.heap.size (iv k) (iv o) (iv 0) sE (iv 0) (strV aq) (sL w5.heap.size 0 2 2) (iv 0)):=λ {n wx} hn h1 h2=>⟨by rw[A4];exact h1,λ j h3 h4=>by rw[A3 (by have:n<=j:=h3;omega)];exact h2 j h3 h4⟩
   have aj:∀{n:Nat} {wx:World},w.heap.size<=n->∀j,From n j->j<wx.heap.size->From w.heap.size j:=λ {n wx} hn j hj _=>AP hn hj
   have cr:=ah.size;have bn:Below w2.heap.size w2 w8:=ba.trans (a5.trans (ah.mono a5.size) |>.mono ba.size);have bq:Below w4.heap.size w4 w8:=be.trans (ah.mono be.size);have bh:=b6 (n:=w1.heap.size) (wx:=w2) (by omega) bn.size (λ j _ hj=>bn.block j hj);have bt:=b6 (n:=w3.heap.size) (wx:=w4) (by omega) bq.size (λ j _ hj=>bq.block j hj);refine⟨⟨_,_,rfl,?_,Ay5 (De ((al.since bh).base' (aj (by omega))) ((bf.since bh).base (aj (by omega)))) (De ((av.since bt).base' (aj (by omega))) ((az.since bt).base (aj (by omega))))⟩,Aq (au.trans (ah.mono (by have:=au.size;omega))) (by omega) _ _ _ _ _ _ _ _⟩;have c5:=b6 (n:=w5.heap.size) (wx:=w8) (by omega) (AD _) (λ j _ hj=>rfl);have af:SlRow (From w5.heap.size) w8 8 (sL w5.heap.size 0 2 2) 2 [iv k2,iv o2,iv n2,strV t2,iv s2,strV y2,.slice a2 a6.length c2,iv 0,iv k4,iv o4,iv n4,strV t4,iv s4,strV y4,.slice a4 a7.length c4,iv 0]:=by rw[<-bp];exact Mr (AD _)
   exact (af.since c5).base' (aj (by have:=au.size;omega))
  clear ak al bf av az b5 bk a9 ad ae;go_wp2_with fail;exact bodyPost_ret (by simp[results,results197,go_sem,c6,r0,r1,r2,r3,r4,r5,r6,r7]) rfl a0
theorem Ox{x:Px.Ex}(hE:EOk x){k o n:Nat}{t:AQ}{c:Ck.Cx}{B:AS}{row:AR}(hc:CkAt w b mb c)(ay:CxOk c)(hr:SlRow B w 8 sl 1 row)(ha:Ai B w [x] row)(ty:AQ) :
  AA 196 #[pt b 0,.agg (exA k o n t sl p),strV ty] w λ e w'=>Ae w (Ck.unary k ty (Ck.cEs c [x])) e w':=by
 obtain⟨w0,w1,b5,b4,l0,l1,a8,b7,b6⟩:=A0 w (iv k) (iv o) (iv n) (strV t) (iv 0) sE sl (iv p);have am:=hr.since (Since.of_below a8);have ak:=ha.since (Since.of_below a8);have av:=hc.keep a8;obtain⟨g,og,cap,ka,oa,na,ta,aa,pa,b9,b0,rfl,aw,hg,rfl,⟨u0,u1,u2,u3,u4,u5,u6,u7⟩,ad,ar⟩:=Bj (args:=[x]) am ak rfl;have hA:=λ w' (hb:Below w1.heap.size w1 w')=>Ca hE rfl (av.keep hb) ay (ad.since (Since.of_below hb)) (ar.since (Since.of_below hb)) ty
 obtain⟨ag,a6,rfl,-,-⟩:=ad.val;obtain⟨d0,d1,d2,d3,d4,d5,d6,d7,-⟩:=Ac b7;obtain⟨R,HR⟩:∃R,Hid (Ck.unary k ty (Ck.cEs c [.mk ka oa na ta aa pa])=R):=⟨_,rfl⟩;rw[HR.out];have ah:Hid (R=Ck.bind (Ck.asked (Ck.cE c (.mk ka oa na ta aa pa),pa) ty) λ x=>.inl (.mk k 0 0 [] 0 ty [x])):=by
  show _=_;rw[<-HR.out];simp only[Ck.unary,Ck.cEs,Ck.arg,getD_cons_zero]
 clear HR;generalize Ck.asked (Ck.cE c (.mk ka oa na ta aa pa),pa) ty=C at *;have ba:([Px.Ex.mk ka oa na ta aa pa]:List Px.Ex).length=1:=rfl;clear hc hr ha hE am ak av ad ar;simp only[length_cons,length_nil,Nat.zero_add] at *;go_enter func196,ntmps196;go_wp2_with fail;refine Vv.wpE_begin (S:=λ w'=>w'.cell? ⟨w.heap.size,0,none⟩=some (iv k)/\w'.cell? ⟨w.heap.size,6,none⟩=some (sL g og 1 cap)/\w'.cell? ⟨g,og,none⟩=some (iv ka)/\w'.cell? ⟨g,og+1,none⟩=some (iv oa)/\w'.cell? ⟨g,og+2,none⟩=some (iv na)/\w'.cell? ⟨g,og+3,none⟩=some (strV ta)/\w'.cell? ⟨g,og+4,none⟩=some (iv 0)/\w'.cell? ⟨g,og+5,none⟩=some sE/\w'.cell? ⟨g,og+6,none⟩=some (.slice ag aa.length a6)/\w'.cell? ⟨g,og+7,none⟩=some (iv pa)) (N:=λ j=>decide (j<12)) (by kernel_rfl) ?_;have hS:∀w',Below w1.heap.size w1 w'->(w'.cell? ⟨w.heap.size,0,none⟩=some (iv k)/\w'.cell? ⟨w.heap.size,6,none⟩=some (sL g og 1 cap)/\w'.cell? ⟨g,og,none⟩=some (iv ka)/\w'.cell? ⟨g,og+1,none⟩=some (iv oa)/\w'.cell? ⟨g,og+2,none⟩=some (iv na)/\w'.cell? ⟨g,og+3,none⟩=some (strV ta)/\w'.cell? ⟨g,og+4,none⟩=some (iv 0)/\w'.cell? ⟨g,og+5,none⟩=some sE/\w'.cell? ⟨g,og+6,none⟩=some (.slice ag aa.length a6)/\w'.cell? ⟨g,og+7,none⟩=some (iv pa)):=λ w' hb=>by
  obtain⟨bc,-⟩:=bcell hb;exact⟨(bc _ _ (by omega)).trans d0,(bc _ _ (by omega)).trans d6,(bc _ _ hg).trans u0,(bc _ _ hg).trans u1,(bc _ _ hg).trans u2,(bc _ _ hg).trans u3,(bc _ _ hg).trans u4,(bc _ _ hg).trans u5,(bc _ _ hg).trans u6,(bc _ _ hg).trans u7⟩
 have a3:=hS w1.drew (AF _ _).drew;refine Aa 7 [12] 0 (pt w.heap.size 0) a3 ?_
 try simp only[aP]
 refine Aa 8 [12] 1 (iv k) a3 ?_
 try simp only[aP]
 refine Aa 9 [12] 2 (strV ty) a3 ?_
 try simp only[aP]
 refine Aa 10 [12] 3 (pt b 0) a3 ?_
 try simp only[aP]
 refine Aa 11 [12] 4 (pt w.heap.size 6) a3 ?_
 try simp only[aP]
 refine Aa 12 [12] 5 (sL g og 1 cap) a3 ?_
 try simp only[aP]
 refine Aa 13 [12] 6 (pt g og) a3 ?_
 try simp only[aP]
 refine Aa 14 [12] 7 (.agg (exA ka oa na ta (.slice ag aa.length a6) pa)) a3 ?_
 try simp only[aP]
 refine Aa 15 [12] 8 (strV ty) a3 ?_
 try simp only[aP]
 refine Ah 9 λ K hK=>?_
 go_simp;refine (hA _ (AF _ _).drew).mono ?_;rintro e w2 hP;replace hP:Ae w1 C e w2:=hP.of (AF _ _).drew;clear hA b5 b4 d0 d1 d2 d3 d4 d5 d6 d7 u0 u1 u2 u3 u4 u5 u6 u7 a3;rcases C with⟨k2,o2,n2,t2,s2,y2,a5⟩ | ⟨a,er⟩
 rotate_left
 .obtain⟨hm,a9⟩:=hP;obtain rfl:=hm;have a0:Ae w R (.panicked (Ag a er)) w2:=by rw[ah.out];exact⟨rfl,a8.trans (a9.mono (by omega))⟩
  exact⟨rfl,a0⟩
 obtain⟨sl2,row2,rfl,ab,au,a9⟩:=hP.inl;obtain⟨a2,c2,rfl,-,-⟩:=ab.val;have ax:=a9.size;refine hK _ _ (λ _=>hS w2 a9) ?_;clear hK K hP
 try simp only[aP]
 obtain⟨w8,aj⟩:∃w8,w2.alloc (.cells #[iv k2,iv o2,iv n2,strV t2,iv s2,strV y2,.slice a2 a5.length c2,iv 0] 48)=w8:=⟨_,rfl⟩;have ae:Below w2.heap.size w2 w8:=by rw[<-aj];exact (AF _ _).alloc (AD _) _
 have a4:Below w1.heap.size w1 w8:=a9.trans (ae.mono ax);refine Ah 10 λ K hK=>?_
 go_simp;refine hK _ _ (λ _=>hS w8 a4) ?_;clear hK K
 try simp only[aP]
 refine Ah 11 λ K hK=>?_
 go_simp;refine hK _ _ (λ _=>hS w8 a4) ?_;clear hK K
 try simp only[aP]
 have af:=(a4.block _ (by omega)).trans b6;obtain⟨r0,r1,r2,r3,r4,r5,r6,r7,t0,t1,b8,t3,bb,t5,t6,t7⟩:=Ac af;have b3:w0.heap.size<w8.heap.size:=(AB af).1;have a0:Ae w R (.returned (.agg #[iv k,iv 0,iv 0,sE,iv 0,strV ty,sL w2.heap.size 0 1 1,iv 0])) (setc8 w8 w0.heap.size (iv k) (iv 0) (iv 0) sE (iv 0) (strV ty) (sL w2.heap.size 0 1 1) (iv 0)):=by
  rw[ah.out];have aq:∀{n:Nat} {wx:World},w0.heap.size<n->wx.heap.size<=w8.heap.size->(∀j,n<=j->j<wx.heap.size->w8.heap[j]?=wx.heap[j]?)->Since (From n) wx (setc8 w8 w0.heap.size (iv k) (iv 0) (iv 0) sE (iv 0) (strV ty) (sL w2.heap.size 0 1 1) (iv 0)):=λ {n wx} hn h1 h2=>⟨by rw[A4];exact h1,λ j h3 h4=>by rw[A3 (by have:n<=j:=h3;omega)];exact h2 j h3 h4⟩
  have ai:∀{n:Nat} {wx:World},w.heap.size<=n->∀j,From n j->j<wx.heap.size->From w.heap.size j:=λ {n wx} hn j hj _=>AP hn hj
  have al:=aq (n:=w1.heap.size) (wx:=w2) (by omega) ae.size (λ j _ hj=>ae.block j hj);refine⟨⟨_,_,rfl,?_,Kz (De ((ab.since al).base' (ai (by omega))) ((au.since al).base (ai (by omega))))⟩,Aq (a8.trans (a4.mono (by omega))) (by omega) _ _ _ _ _ _ _ _⟩;have az:=aq (n:=w2.heap.size) (wx:=w8) (by omega) (AD _) (λ j _ hj=>rfl);have a7:SlRow (From w2.heap.size) w8 8 (sL w2.heap.size 0 1 1) 1 [iv k2,iv o2,iv n2,strV t2,iv s2,strV y2,.slice a2 a5.length c2,iv 0]:=by rw[<-aj];exact En (AD _)
  exact (a7.since az).base' (ai (by omega))
 refine Ah 12 λ K hK=>?_
 go_simp;refine hK _ _ (λ h=>by cases h) ?_;clear hK K
 try simp only[aP]
 refine Vv.wpE_done (by kernel_rfl) ?_;clear ah ab au af hS aj;simp only[Exit.inBlock,Exit.then];refine ‹∀(a:Act) (w:World),_->_› _ _ ?_;go_wp2_with fail;exact bodyPost_ret (by simp[results,results196,go_sem,b3,r0,r1,r2,r3,r4,r5,r6,r7]) rfl a0
end
section
open Ck (CE CS CF CP Mng)
theorem An{α β:Type}{r:Ck.R α}{f:α->Ck.R β}{y:β}(h:Ck.bind r f=.inl y):∃x,r=.inl x/\f x=.inl y:=by
 rcases r with x | e
 .exact⟨x,rfl,h⟩
 .cases h
theorem Xn(t:AQ):(Vv.elT t).1.length<=100:=by
 unfold Vv.elT;split
 .rename_i T h;have h2:=((Vv.tyOf_iff _ _).1 h).2;have h3:=(Vv.tyT_len T).2;simp only[Vv.Ty.dp] at h2;show (Vv.tyT T).length<=100;omega
 .simp
theorem Xo(t:AQ):(Vv.mpT t).1.length<=100/\(Vv.mpT t).2.1.length<=100:=by
 unfold Vv.mpT;split
 .rename_i k T h;have h2:=((Vv.tyOf_iff _ _).1 h).2;have h3:=(Vv.tyT_len T).2;simp only[Vv.Ty.dp] at h2;refine⟨?_,?_⟩
  .show (Vv.keyT k).length<=100;rw[<-Vv.keyTy_T];have:=(Vv.tyT_len (Vv.keyTy k)).2;rw[Vv.keyTy_dp] at this;omega
  .show (Vv.tyT T).length<=100;omega
 .simp
theorem within_len(t:AQ):(Ck.within t).1.length<=100/\(Ck.within t).2.1.length<=100:=by
 unfold Ck.within;split
 .exact⟨by simp[Ck.tInt],Xn t⟩
 .exact Xo t
theorem Xp{k:Nat}{t:AQ}(ht:t.length<=1000):(Ck.sig k t).1.length<=1000/\(Ck.sig k t).2.1.length<=1000:=by
 have h1:=Xn t;have h2:=Xo t;unfold Ck.sig;split
 .simp[Ck.tInt]
 .split
  .simp[Ck.tBool];omega
  .split
   .exact⟨ht,by show (Vv.elT t).1.length<=1000;omega⟩
   .simp[Ck.tText]
theorem Aj6{o:Nat}{t:AQ}(ht:t.length<=1000):(Ck.operated o t).1.length<=1000:=by
 unfold Ck.operated;split
 .exact ht
 .split
  .simp[Ck.tBool]
  .split
   .simp[Ck.tBool]
   .split
    .exact ht
    .exact ht
theorem Ms:∀(env:Ck.Env) (x:AQ),(∀y∈env,y.2.type.length<=1000)->(Ck.look env x).type.length<=1000
 | [],x,h=>by simp[Ck.look,Ck.Mng.no]
 |(n,m) :: r,x,h=>by
  rw[Ck.look];split
  .exact h (n,m) (AC ..)
  .exact Ms r x (λ y hy=>h y (AH _ hy))
abbrev Ay6(qs:List Ck.Q):Prop:=∀q∈qs,∀e,q.1=.inl e->e.type.length<=1000
theorem Xq{qs:List Ck.Q}(h:Ay6 qs){e:CE}(he:(Ck.arg qs i).1=.inl e):e.type.length<=1000:=by
 unfold Ck.arg at he;rw[getD_eq_getElem?_getD] at he;rcases hq:qs[i]? with _ | q
 .rw[hq] at he;cases he
 .rw[hq] at he;exact h q (mem_of_getElem? hq) e he
theorem Aj7{c:Ck.Cx}(hc:CxOk c){k o n:Nat}{t:AQ}{qs:List Ck.Q}(hq:Ay6 qs){e:CE}(h:Ck.comb c k o n t p qs=.inl e):e.type.length<=1000:=by
 unfold Ck.comb at h;split at h
 .simp only[Sum.inl.injEq] at h;subst h;simp[CE.type,Ck.tInt]
 split at h
 .simp only[Sum.inl.injEq] at h;subst h;simp[CE.type,Ck.tBool]
 split at h
 .simp only[Sum.inl.injEq] at h;subst h;simp[CE.type,Ck.tText]
 split at h
 .unfold Ck.name at h;obtain⟨u,h1,h2⟩:=An h;simp only[Sum.inl.injEq] at h2;subst h2;exact Ms _ _ hc.env
 split at h
 .split at h
  .unfold Ck.call at h;obtain⟨u,h1,h⟩:=An h;obtain⟨u,h2,h⟩:=An h;obtain⟨u,h3,h⟩:=An h;obtain⟨xs,h4,h⟩:=An h;simp only[Sum.inl.injEq] at h;subst h;show (c.heads.getD _ _).result.length<=1000;rw[getD_eq_getElem?_getD];rcases hh:c.heads[(Ck.look c.env t).slot]? with _ | hd
   .simp
   .exact hc.res hd (mem_of_getElem? hh)
  .unfold Ck.builtin at h;obtain⟨u,h1,h⟩:=An h;obtain⟨x,h2,h⟩:=An h;obtain⟨u,h3,h⟩:=An h;have hx:=Xq hq h2;split at h
   .obtain⟨y,h4,h⟩:=An h;simp only[Sum.inl.injEq] at h;subst h;exact (Xp hx).1
   .simp only[Sum.inl.injEq] at h;subst h;exact (Xp hx).1
 split at h
 .unfold Ck.at_ at h;obtain⟨x,h2,h⟩:=An h;obtain⟨u,h3,h⟩:=An h;obtain⟨y,h4,h⟩:=An h;simp only[Sum.inl.injEq] at h;subst h;have:=(within_len x.type).2;show (Ck.within x.type).2.1.length<=1000;omega
 split at h
 .unfold Ck.unary at h;obtain⟨x,h2,h⟩:=An h;simp only[Sum.inl.injEq] at h;subst h;simp[CE.type,Ck.tInt]
 split at h
 .unfold Ck.unary at h;obtain⟨x,h2,h⟩:=An h;simp only[Sum.inl.injEq] at h;subst h;simp[CE.type,Ck.tBool]
 .unfold Ck.binary at h;obtain⟨x,h2,h⟩:=An h;obtain⟨y,h3,h⟩:=An h;obtain⟨u,h4,h⟩:=An h;simp only[Sum.inl.injEq] at h;subst h;exact Aj6 (Xq hq h2)
mutual
theorem Ig{c:Ck.Cx}(hc:CxOk c):∀(x:Px.Ex) (e:CE),Ck.cE c x=.inl e->e.type.length<=1000
 | .mk k o n t args p,e,h=>by
  rw[Ck.cE] at h;exact Aj7 hc (Xr hc args) h
theorem Xr{c:Ck.Cx}(hc:CxOk c):∀l:List Px.Ex,Ay6 (Ck.cEs c l)
 | []=>by intro q hq;rw[Ck.cEs] at hq;cases hq
 | .mk k o n t args p :: r=>by
  intro q hq e he;rw[Ck.cEs] at hq;rcases mem_cons.1 hq with rfl | hq
  .exact Ig hc (.mk k o n t args p) e he
  .exact Xr hc r q hq e he
end
end
end Go.Proofs.YtpckmjfabiallaaGreatDoor
