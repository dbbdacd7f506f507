/- Texts of ours, joined. -/
import Derived.Test.YtnijcolomoobnaaGreatDoorU05
import Derived.Test.YtnijcolomoobnaaGreatDoorU02
import Derived.Deep.RegionHeld3
import Derived.Deep.DrawnRows
set_option linter.unusedVariables false
set_option linter.unusedSimpArgs false
set_option maxRecDepth 100000
set_option maxHeartbeats 16000000
namespace Go.Proofs.YtnijcolomoobnaaGreatDoor
section
open Go.RowKit
attribute [local go_sem ↓] Go.wp_at_zero Go.wp_at_succ
theorem Eo{T E:TypeId}{z:Value}{size bytes:Nat}(ht:Tryz.prog.underlying T=some (.slice E))(hinfo:(Tryz.prog.info? E).map (fun i=>(i.zero,i.size,i.bytes))=some (some z,size,bytes))(hzs:z.cells.size=size)(hsz:0<size)(ty:TypeId)
  {w:World} {base n m c:Nat} {v:Value} {xs news:List Value} {ad:Option Addr} (hown:w.ownsRow base E size v n xs) (hnil:ad=none->m=0∧c=0) (hl:news.length=m*size) (hnews:∀b,ad=some b->∀j u,news[j]?=some u->w.cell? (b.add j)=some u) (h1:∀u∈news,u.oneCell'=true)
  (hn:n+m<=100000000) (hby:bytes<=1000) (hbase:base<=w.heap.size) :
  ∃ao cap w',(Builtin.append_ #[T,T] ty #[v,.slice ad m c]).run Tryz.prog w=.ok (.slice ao (n+m) cap) w'∧w'.ownsRow base E size (.slice ao (n+m) cap) (n+m) (xs ++ news)∧Below base w w'∧w.grownBy w' v.ownBlock∧(Value.ownBlock (.slice ao (n+m) cap)=v.ownBlock∨Value.ownBlock (.slice ao (n+m) cap)=some w.heap.size):=by
 obtain⟨i,hi,hz,hs,hb⟩:=Em hinfo;cases ad with
 | none=>
  obtain⟨rfl,rfl⟩:=hnil rfl;have hne:news=[]:=List.length_eq_zero_iff.1 (by omega);subst hne;obtain⟨ao,cap,rfl,h2,h3⟩:=Ds hown;exact⟨ao,cap,w,run_append_owned_none (P:=Tryz.prog) (w:=w) base T ty E i size ht hi _ n xs hown,by simpa using hown,Below.refl _ _,Ip _ _,Or.inl rfl⟩
 | some b=>
  have hmul:(n+m)*bytes<=100000000*1000:=Nat.mul_le_mul hn hby;obtain⟨v',w',hr,ho,hg,_,hat⟩:=run_append_own_at (P:=Tryz.prog) w base T ty E i z size bytes ht hi hz hs hb hzs hsz v n xs hown b m c news hl (hnews b rfl) h1 (by unfold maxLen;omega) (by omega) hbase;obtain⟨ao,cap,rfl,_,_⟩:=Ds ho;exact⟨ao,cap,w',hr,ho,(Below.refl _ _).grown hg hbase (fun k hk=>(hown.lt k hk).1),hg,hat⟩
end
section
open Go.RowKit
theorem Nv{w:World}{g:Nat}{y0 y1:Value}{T:TypeId}(h:w.heap[g]?=some (.cells #[y0,y1] T (0,0)))(x:Value):(w.setCell ⟨g,1,none⟩ x).heap[g]?=some (.cells #[y0,x] T (0,0)):=by
 simp[World.setCell,Array.getElem?_modify,h]
end
end Go.Proofs.YtnijcolomoobnaaGreatDoor
