import Derived.Test.YtoijpogadkogcaaGreatQa
import Derived.Maps.Keyed
import Derived.Test.YtoijpogadkogcaaGreatQb
namespace Go.Proofs.YtoijpogadkogcaaGreat
open Go.RowKit
def OwnAt(w:World)(T sz:Nat)(v:Value)(n:Nat)(xs:List Value):Prop :=
 xs.length=n*sz/\((v = .slice none 0 0/\n=0) \/
  ∃ g o cap cur,v = .slice (some ⟨g,o,none⟩) n cap/\w.heap[g]? = some (.cells cur T (0,0))/\n<=cap/\cap<=maxLen/\o+cap*sz<=cur.size/\(cur.toList.drop o).take (n*sz)=xs)
theorem OwnAt.nil(w:World)(T sz:Nat):OwnAt w T sz (.slice none 0 0) 0 []:=⟨by simp,.inl ⟨rfl,rfl⟩⟩
theorem OwnAt.ofOwns{w:World}{base T sz n:Nat}{v:Value}{xs:List Value}(h:w.ownsRow base T sz v n xs):OwnAt w T sz v n xs:=by
 refine⟨h.1,?_⟩;rcases h.2 with h2 | ⟨g,cap,cur,rfl,hb,hg,hnc,hcm,hcs,htake⟩
 ·exact .inl h2
 ·exact .inr ⟨g,0,cap,cur,rfl,hg,hnc,hcm,by omega,by simpa using htake⟩
theorem OwnAt.same{w w':World}{T sz n:Nat}{v:Value}{xs:List Value}(h:OwnAt w T sz v n xs)(hb:∀ k,v.ownBlock=some k->w'.heap[k]? = w.heap[k]?):OwnAt w' T sz v n xs:=by
 refine⟨h.1,?_⟩;rcases h.2 with h2 | ⟨g,o,cap,cur,rfl,hg,h3⟩
 ·exact .inl h2
 ·exact .inr ⟨g,o,cap,cur,rfl,(hb g rfl).trans hg,h3⟩
theorem OwnAt.lt{w:World}{T sz n:Nat}{v:Value}{xs:List Value}(h:OwnAt w T sz v n xs)(k:Nat)(hk:v.ownBlock=some k):k<w.heap.size:=by
 rcases h.2 with ⟨rfl,_⟩|⟨g,o,cap,cur,rfl,hg,h3⟩
 ·simp[Value.ownBlock] at hk
 ·simp only[Value.ownBlock,Option.some.injEq] at hk;subst hk;exact(Array.getElem?_eq_some_iff.1 hg).1
theorem OwnAt.slice{w:World}{T sz n:Nat}{v:Value}{xs:List Value}(h:OwnAt w T sz v n xs):∃ a cap,v = .slice a n cap/\n<=cap/\cap<=maxLen:=by
 rcases h.2 with ⟨rfl,rfl⟩|⟨g,o,cap,cur,rfl,hg,h3,h4,_⟩
 ·exact⟨none,0,rfl,Nat.le_refl _,by simp[maxLen]⟩
 ·exact⟨_,cap,rfl,h3,h4⟩
theorem OwnAt.at{w:World}{T sz n:Nat}{v:Value}{xs:List Value}(h:OwnAt w T sz v n xs)(hn:0<n):∃ g o cap,v = .slice (some ⟨g,o,none⟩) n cap/\n<=cap/\cap<=maxLen/\(∀ j,j<n*sz->w.cell? ⟨g,o+j,none⟩=xs[j]?):=by
 rcases h.2 with ⟨rfl,rfl⟩|⟨g,o,cap,cur,rfl,hg,h3,h4,h5,h6⟩
 ·omega
 ·refine⟨g,o,cap,rfl,h3,h4,λj hj => ?_⟩
  have:n*sz<=cap*sz:=Nat.mul_le_mul_right _ h3
  rw[<-h6,List.getElem?_take,if_pos hj,List.getElem?_drop,Array.getElem?_toList];simp[World.cell?,hg]
theorem OwnAt.src{P:Program}{w:World}{T sz n:Nat}{v:Value}{xs:List Value}{tx e':TypeId}(ht:P.underlying tx=some (.slice e'))(h:OwnAt w T sz v n xs)(hone:∀ u∈xs,u.oneCell'=true):Src P sz tx v n xs w:=by
 have hl:=h.1;rcases h.2 with ⟨rfl,rfl⟩ | ⟨g,o,cap,cur,rfl,hg,h3,h4,h5,h6⟩
 ·have hx:xs=[]:=List.eq_nil_of_length_eq_zero (by simpa using hl);subst hx;exact Src.ofNil w ht 0
 ·by_cases hn:n=0
  ·subst hn;have hx:xs=[]:=List.eq_nil_of_length_eq_zero (by simpa using hl);subst hx;exact Src.ofSlice w ht ⟨g,o,none⟩ 0 cap [] (by simp) (λj u hj=>by simp at hj) (λu hu=>by simp at hu)
  ·refine Src.ofSlice w ht ⟨g,o,none⟩ n cap xs hl (λj u hj => ?_) hone;have hj':j<n*sz:=by rw[<-hl];exact(List.getElem?_eq_some_iff.1 hj).1
   rw[<-h6,List.getElem?_take,if_pos hj',List.getElem?_drop,Array.getElem?_toList] at hj
   show w.cell? ((⟨g,o,none⟩:Addr).add j)=some u
   rw[show (⟨g,o,none⟩:Addr).add j=⟨g,o+j,none⟩ by unfold Addr.add;split<;>simp_all];simp[World.cell?,hg,hj]
theorem zea(g o j:Nat):(⟨g,o,none⟩:Addr).add j=⟨g,o+j,none⟩:=by unfold Addr.add;split<;>simp_all
theorem OwnAt.from{w:World}{T sz n cap:Nat}{a:Option Addr}{xs:List Value}(h:OwnAt w T sz (.slice a n cap) n xs)(k:Nat)(hk:k<=n):OwnAt w T sz (sliced a k n cap sz) (n-k) (xs.drop (k*sz)):=by
 have hl:=h.1;refine⟨by rw[List.length_drop,hl,Nat.sub_mul],?_⟩;rcases h.2 with ⟨h1,h2⟩ | ⟨g,o,cap',cur,h1,hg,h3,h4,h5,h6⟩
 ·simp only[Value.slice.injEq] at h1;obtain⟨rfl,rfl,rfl⟩:=h1
  have:k=0:=by omega
  subst this;exact .inl ⟨by simp[sliced],rfl⟩
 ·simp only[Value.slice.injEq] at h1;obtain⟨rfl,_,rfl⟩:=h1;by_cases hc:cap=k
  ·have hn:n=k:=by omega
   subst hn;refine .inr ⟨g,o,0,cur,by simp[sliced,hc],hg,by omega,by simp[maxLen],by omega,?_⟩;rw[List.drop_of_length_le (Nat.le_of_eq hl)];simp
  ·refine .inr ⟨g,o+k*sz,cap-k,cur,?_,hg,by omega,by omega,?_,?_⟩
   ·simp only[sliced,if_neg hc,Option.map,zea]
   ·have:k*sz+(cap-k)*sz=cap*sz:=by rw[<-Nat.add_mul];congr 1;omega
    omega
   ·rw[<-h6,<-List.drop_drop,Nat.sub_mul,List.drop_take]
section
variable {P:Program} (w:World)
theorem zjq(t tx ty e:TypeId)(i:TypeInfo)(z:Value)(size bytes:Nat)(ht:P.underlying t=some (.slice e))(hi:P.info? e=some i)(hz:i.zero=some z)
  (hsize:i.size=size) (hby:i.bytes=bytes) (hzs:z.cells.size=size)
  (v:Value) (n:Nat) (xs:List Value) (hown:OwnAt w e size v n xs)
  (x:Value) (m:Nat) (news:List Value) (hs:Src P size tx x m news w)
  (h63:n+m<=maxLen) (hbytes:(n+m)*bytes<=140737488355328) :
  ∃ v' w',(Builtin.append_ #[t,tx] ty #[v,x]).run P w = .ok v' w'/\OwnAt w' e size v' (n+m) (xs++news)/\zau w v w' v':=by
 subst hsize;subst hby
 have hsmall:n+m<=9223372036854775807:=by simp only[maxLen] at h63;omega
 have hl:=hs.newsLen;have hlen:(xs++news).length=(n+m)*i.size:=by rw[List.length_append,hown.1,hl,Nat.add_mul]
 have grown:∀ (old:Nat),old<n+m -> ∀ (v:Value),
   OwnAt (w.drew.alloc (.cells ((xs++news).toArray++Builtin.zeroCells z.cells (grownCap w (n+m) old e-(n+m))) e)) e i.size
    (.slice (some ⟨w.heap.size,0,none⟩) (n+m) (grownCap w (n+m) old e)) (n+m) (xs++news) /\
   zau w v (w.drew.alloc (.cells ((xs++news).toArray++Builtin.zeroCells z.cells (grownCap w (n+m) old e-(n+m))) e)) (.slice (some ⟨w.heap.size,0,none⟩) (n+m) (grownCap w (n+m) old e)):=by
  intro old ho v;have hge:=grownCap_ge w (n+m) old e;have hcm:grownCap w (n+m) old e<=maxLen:=grownCap_le_maxLen w (n+m) old e h63;refine⟨⟨hlen,.inr ⟨w.heap.size,0,_,_,rfl,heap_alloc_new w.drew _,hge,hcm,?_,?_⟩⟩,⟨⟨rfl,rfl,rfl,by simp,λk hk _=>heap_alloc_old w.drew _ hk⟩,.inr ⟨_,rfl,Nat.le_refl _⟩⟩⟩
  ·simp only[Array.size_append,List.size_toArray,size_zeroCells,hzs,hlen,<-Nat.add_mul];rw[Nat.zero_add];exact Nat.mul_le_mul_right _ (by omega)
  ·simp only[Array.toList_append,List.drop_zero];rw[<-hlen];exact List.take_left
 rcases hown.2 with ⟨rfl,rfl⟩|⟨g,o,cap,cur,rfl,hg,hnc,hcm,hcs,htake⟩
 ·have hx:xs=[]:=List.eq_nil_of_length_eq_zero (by simpa using hown.1);subst hx;by_cases hm:m=0
  ·subst hm;have hn:news=[]:=List.eq_nil_of_length_eq_zero (by simpa using hl);subst hn;refine⟨.slice none 0 0,w,?_,OwnAt.nil w e i.size,zau.refl _ _⟩;rcases hs.kind with ⟨e',hk⟩ | hk<;>simp[Builtin.append_,run_underlying ht,run_underlying hk,sizeOf,typeInfo,hi,hs.len,hs.cells]
  ·have hr:=run_append_grow_src (P:=P) w t tx ty e i z ht hi hz none 0 0 [] (by simp[Builtin.firstCells]) x m news hs (by omega) (by omega) (growslice_fits (by omega) (by simpa using hbytes));have hgr:=grown 0 (by omega) (.slice none 0 0);simp only[Nat.zero_add,List.nil_append] at hgr hr ⊢;exact⟨_,_,hr,hgr.1,hgr.2⟩
 ·by_cases hroom:n+m<=cap
  ·have hmul:(n+m)*i.size<=cap*i.size:=Nat.mul_le_mul_right _ hroom;have hadd:(n+m)*i.size=n*i.size+m*i.size:=Nat.add_mul _ _ _;have hfit:(o+n*i.size)+0+news.length<=cur.size:=by rw[hl];omega
   have hst:=run_storeCells_at P g (o+n*i.size) e news 0 cur w hg hfit hs.one;simp only[Nat.add_zero] at hst;have hr:(Builtin.append_ #[t,tx] ty #[.slice (some ⟨g,o,none⟩) n cap,x]).run P w =
     .ok (.slice (some ⟨g,o,none⟩) (n+m) cap) (w.setRow g (cur.toList.take (o+n*i.size)++news++cur.toList.drop (o+n*i.size+news.length)).toArray):=by
    rcases hs.kind with ⟨e',hk⟩ | hk<;>simp[Builtin.append_,run_underlying ht,run_underlying hk,sizeOf,typeInfo,hi,hs.len,hroom,hs.cells,zea,hst]
   refine⟨_,_,hr,⟨hlen,.inr ⟨g,o,cap,_,rfl,setRow_heap w g cur _ e _ hg,hroom,hcm,?_,?_⟩⟩,⟨⟨rfl,rfl,rfl,by simp,λk _ hk=>setRow_other w g k _ (λe=>hk (by simp[Value.ownBlock,e]))⟩,.inl rfl⟩⟩
   ·simp only[List.size_toArray,List.length_append,List.length_take,List.length_drop,Array.length_toList];omega
   ·have hlt:(cur.toList.take o).length=o:=by rw[List.length_take,Array.length_toList];omega
    have e1:cur.toList.take (o+n*i.size)=cur.toList.take o++xs:=by rw[List.take_add,htake]
    simp only[e1,List.append_assoc];rw[List.drop_append_of_le_length (by omega),List.drop_of_length_le (by omega),List.nil_append,<-List.append_assoc,<-hlen];exact List.take_left
  ·have holds:∀ j u,xs[j]? = some u->w.drew.cell? ((⟨g,o,none⟩:Addr).add j)=some u:=λj u h=>by
    have hj':j<n*i.size:=by rw[<-hown.1];exact(List.getElem?_eq_some_iff.1 h).1
    rw[<-htake,List.getElem?_take,if_pos hj',List.getElem?_drop,Array.getElem?_toList] at h;rw[zea]
    show w.cell? _=_
    simp[World.cell?,hg,h]
   have hr:=run_append_grow_src (P:=P) w t tx ty e i z ht hi hz (some ⟨g,o,none⟩) n cap xs (run_firstCells_some w.drew i.size n ⟨g,o,none⟩ n cap xs hown.1 holds) x m news hs (by omega) (by omega) (growslice_fits (by omega) hbytes);have hgr:=grown cap (by omega) (.slice (some ⟨g,o,none⟩) n cap);exact⟨_,_,hr,hgr.1,hgr.2⟩
theorem zbh{ops:Array Oper}{rest:List Oper}{o:Oper}{a:Act}{Q:Exit->Act->World->Prop}(hgd:o.guard=none)(s x:Operand)(t tx:TypeId)
  (ho:o.op = .call { callee:=.builtin .append,args:=#[s,x],argTypes:=#[t,tx] })
  (e:TypeId) (i:TypeInfo) (z:Value) (size bytes:Nat) (ht:P.underlying t=some (.slice e)) (hi:P.info? e=some i) (hz:i.zero=some z)
  (hsize:i.size=size) (hby:i.bytes=bytes) (hzs:z.cells.size=size)
  (v:Value) (n:Nat) (xs:List Value) (hs:a.eval s=v) (hown:OwnAt w e size v n xs)
  (y:Value) (m:Nat) (news:List Value) (hx:a.eval x=y) (hsrc:Src P size tx y m news w)
  (h63:n+m<=maxLen) (hbytes:(n+m)*bytes<=140737488355328)
  (h:∀ v' w',OwnAt w' e size v' (n+m) (xs++news)->zau w v w' v'->wpList P ops Q rest (a.put o.dst v') w'):wpList P ops Q (o::rest) a w:=by
 refine wpList_plain hgd λK hK => ?_;obtain⟨v',w',hr,h2,h3⟩:=zjq (P:=P) w t tx o.type e i z size bytes ht hi hz hsize hby hzs v n xs hown y m news hsrc h63 hbytes;unfold Oper.wp execOp;simp only[ho,resolve,invoke,builtin,Sem.run_bind,Sem.run_pure,Result.andThen_ok,List.map_toArray,List.map_cons,List.map_nil,hs,hx,hr];exact hK _ _ (h v' w' h2 h3)
end
theorem zkl{w:World}{g o:Nat}{u:Value}{cur:Array Value}{T:TypeId}(h:w.heap[g]? = some (.cells cur T (0,0))):(w.setCell ⟨g,o,none⟩ u).heap[g]? = some (.cells (cur.setIfInBounds o u) T (0,0)):=by
 have hlt:=(Array.getElem?_eq_some_iff.1 h).1;have h':w.heap[g] = .cells cur T (0,0):=(Array.getElem?_eq_some_iff.1 h).2
 show (w.heap.modify g _)[g]? = _
 rw[Array.getElem?_eq_getElem (by simpa using hlt),Array.getElem_modify_self,h'];rfl
theorem OwnAt.set{w:World}{T sz n g o cap:Nat}{xs:List Value}(h:OwnAt w T sz (.slice (some ⟨g,o,none⟩) n cap) n xs)(j:Nat)(u:Value):OwnAt (w.setCell ⟨g,o+j,none⟩ u) T sz (.slice (some ⟨g,o,none⟩) n cap) n (xs.set j u):=by
 refine⟨by rw[List.length_set];exact h.1,?_⟩;rcases h.2 with ⟨h1,_⟩ | ⟨g',o',cap',cur,h1,hg,h3,h4,h5,h6⟩
 ·simp at h1
 ·simp only[Value.slice.injEq,Option.some.injEq,Addr.mk.injEq] at h1;obtain⟨⟨rfl,rfl,_⟩,_,rfl⟩:=h1;refine .inr ⟨g,o,cap,_,rfl,zkl hg,h3,h4,by simpa using h5,?_⟩;rw[<-h6,Array.toList_setIfInBounds,List.drop_set,if_neg (by omega),Nat.add_sub_cancel_left,List.take_set]
inductive Res
 | none
 | obj (g:Nat) (o:Obj)
 | row (T sz:Nat) (v:Value) (n:Nat) (xs:List Value)
 | pred (G:Nat->Prop) (p:World->Prop)
def Res.has:Res->Nat->Prop
 | .none,_=>False
 | .obj g _,k=>k=g
 | .row _ _ v _ _,k=>v.ownBlock=some k
 | .pred G _,k=>G k
def Res.ok(w:World):Res->Prop
 | .none=>True
 | .obj g o=>w.heap[g]? = some o
 | .row T sz v n xs=>OwnAt w T sz v n xs
 | .pred G p => ∀ w':World,(∀ k,G k->w'.heap[k]? = w.heap[k]?)->p w'
theorem Res.ok.same{w w':World}{r:Res}(h:r.ok w)(hb:∀ k,r.has k->w'.heap[k]? = w.heap[k]?):r.ok w':=by
 cases r with
 | none=>trivial
 | obj g o=>exact(hb g rfl).trans h
 | row T sz v n xs=>exact OwnAt.same h hb
 | pred G p=>exact λu hu=>h u (λk hk=>(hu k hk).trans (hb k hk))
open Classical in
noncomputable def upd {N:Type} (own:N->Res) (n:N) (r:Res):N->Res:=λm=>if m=n then r else own m
theorem zag{N:Type}(own:N->Res)(n:N)(r:Res):upd own n r n=r:=by simp[upd]
theorem zac{N:Type}(own:N->Res){n m:N}(r:Res)(h:m≠n):upd own n r m=own m:=by simp[upd,h]
structure Sep {N:Type} (wb w:World) (own:N->Res):Prop where
 base:Ext wb w
 ok:∀ n,(own n).ok w
 apart:∀ n m k,(own n).has k->(own m).has k->n=m
 low:∀ n k,(own n).has k->wb.heap.size<=k/\k<w.heap.size
theorem Sep.put{N:Type}{wb w w':World}{own:N->Res}(h:Sep wb w own)(n:N)(r:Res)(hb:Ext wb w')(hsz:w.heap.size<=w'.heap.size)
  (hsame:∀ m k,m≠n->(own m).has k->w'.heap[k]? = w.heap[k]?) (hr:r.ok w') (hk:∀ k,r.has k->((own n).has k\/w.heap.size<=k)/\k<w'.heap.size):Sep wb w' (upd own n r):=by
 have low':=h.base.size;refine⟨hb,λm => ?_,λa b k ha hbk => ?_,λm k hm => ?_⟩
 ·by_cases e:m=n
  ·subst e;rw[zag];exact hr
  ·rw[zac own r e];exact(h.ok m).same (hsame m · e)
 ·by_cases ea:a=n
  ·by_cases eb:b=n
   ·rw[ea,eb]
   ·rw[ea,zag] at ha;rw[zac own r eb] at hbk;rcases (hk k ha).1 with h1 | h1
    ·rw[ea];exact h.apart n b k h1 hbk
    ·have:=(h.low b k hbk).2;omega
  ·rw[zac own r ea] at ha;by_cases eb:b=n
   ·rw[eb,zag] at hbk;rcases (hk k hbk).1 with h1 | h1
    ·rw[eb];exact h.apart a n k ha h1
    ·have:=(h.low a k ha).2;omega
   ·rw[zac own r eb] at hbk;exact h.apart a b k ha hbk
 ·by_cases e:m=n
  ·rw[e,zag] at hm;refine⟨?_,(hk k hm).2⟩;rcases (hk k hm).1 with h1 | h1
   ·exact(h.low n k h1).1
   ·omega
  ·rw[zac own r e] at hm
   have:=h.low m k hm
   omega
theorem Sep.ext{N:Type}{wb w w':World}{own:N->Res}(h:Sep wb w own)(e:Ext w w'):Sep wb w' own :=
 ⟨h.base.trans e,λn=>(h.ok n).same (λk hk=>e.block k (h.low n k hk).2),h.apart,λn k hk=>⟨(h.low n k hk).1,Nat.lt_of_lt_of_le (h.low n k hk).2 e.size⟩⟩
theorem Sep.grew{N:Type}{wb w w':World}{own:N->Res}(h:Sep wb w own){n:N}{T sz k:Nat}{v:Value}{xs:List Value}(hn:own n = .row T sz v k xs){v':Value}(g:zau w v w' v'){k':Nat}{xs':List Value}(ho:OwnAt w' T sz v' k' xs'):Sep wb w' (upd own n (.row T sz v' k' xs')):=by
 have hv:∀ b,v.ownBlock=some b->wb.heap.size<=b:=λb hb=>(h.low n b (by rw[hn];exact hb)).1
 refine h.put n _ ?_ g.grown.size (λm b hm hb => ?_) ho (λb hb=>⟨?_,ho.lt b hb⟩)
 ·exact Below.trans h.base (g.below wb.heap.size h.base.size hv)
 ·exact g.grown.block b (h.low m b hb).2 (λe=>hm (h.apart m n b hb (by rw[hn];exact e.symm)))
 ·rcases g.place with e|⟨q,e,hq⟩
  ·left;rw[hn];show v.ownBlock=some b;rw[<-e];exact hb
  ·right
   have:v'.ownBlock=some b:=hb
   rw[e] at this;injection this with this
   omega
theorem zbv{w:World}{T sz n:Nat}{v:Value}{xs:List Value}(h:OwnAt w T sz v n xs){m:Nat}{ys:List Value}(hn:n=m)(hx:xs=ys):OwnAt w T sz v m ys:=by subst hn;subst hx;exact h
theorem Sep.add{N:Type}{wb w w':World}{own:N->Res}(h:Sep wb w own)(n:N)(e:Ext w w'){T sz k:Nat}{v:Value}{xs:List Value}(ho:OwnAt w' T sz v k xs)(hf:∀ b,v.ownBlock=some b->w.heap.size<=b):Sep wb w' (upd own n (.row T sz v k xs)) :=
 h.put n _ (h.base.trans e) e.size (λm b _ hb=>e.block b (h.low m b hb).2) ho (λb hb=>⟨.inr (hf b hb),ho.lt b hb⟩)
theorem Sep.addObj{N:Type}{wb w:World}{own:N->Res}(h:Sep wb w own)(n:N)(o:Obj):Sep wb (w.alloc o) (upd own n (.obj w.heap.size o)) :=
 have e:Ext w (w.alloc o):=(Ext.refl w).alloc o
 h.put n _ (h.base.trans e) e.size (λm b _ hb=>e.block b (h.low m b hb).2) (heap_alloc_new w o) (λb hb=>⟨.inr (Nat.le_of_eq hb.symm),by rw[show b=w.heap.size from hb];simp⟩)
theorem Sep.drop{N:Type}{wb w:World}{own:N->Res}(h:Sep wb w own)(n:N):Sep wb w (upd own n .none) :=
 h.put n _ h.base (Nat.le_refl _) (λ_ _ _ _=>rfl) trivial (λ_ hb=>hb.elim)
theorem Sep.setObj{N:Type}{wb w:World}{own:N->Res}(h:Sep wb w own){n:N}{g T:Nat}{vals:Array Value}(hn:own n = .obj g (.cells vals T (0,0)))(k:Nat)(u:Value) :
  Sep wb (w.setCell ⟨g,k,none⟩ u) (upd own n (.obj g (.cells (vals.setIfInBounds k u) T (0,0)))):=by
 have hg:w.heap[g]? = some (.cells vals T (0,0)):=by have:=h.ok n;rw[hn] at this;exact this
 have hl:=h.low n g (by rw[hn];rfl);refine h.put n _ (Below.setCell h.base hl.1 u) (by simp) (λm b hm hb=>Below.heap_setCell w _ _ b (λe=>hm (h.apart m n b hb (by rw[hn];exact e)))) (zkl hg) (λb hb=>⟨.inl (by rw[hn];exact hb),by rw[show b=g from hb];simpa using hl.2⟩)
theorem Sep.setRow{N:Type}{wb w:World}{own:N->Res}(h:Sep wb w own){n:N}{T sz k g o cap:Nat}{xs:List Value}(hn:own n = .row T sz (.slice (some ⟨g,o,none⟩) k cap) k xs)(j:Nat)(u:Value) :
  Sep wb (w.setCell ⟨g,o+j,none⟩ u) (upd own n (.row T sz (.slice (some ⟨g,o,none⟩) k cap) k (xs.set j u))):=by
 have ho:OwnAt w T sz (.slice (some ⟨g,o,none⟩) k cap) k xs:=by have:=h.ok n;rw[hn] at this;exact this
 have hl:=h.low n g (by rw[hn];rfl);refine h.put n _ (Below.setCell h.base hl.1 u) (by simp) (λm b hm hb=>Below.heap_setCell w _ _ b (λe=>hm (h.apart m n b hb (by rw[hn];exact congrArg some e.symm)))) (ho.set j u) (λb hb=>⟨.inl (by rw[hn];exact hb),?_⟩)
 have:some g=some b:=hb
 injection this with this
 rw[<-this];simpa using hl.2
theorem Sep.cell{N:Type}{wb w:World}{own:N->Res}(h:Sep wb w own){n:N}{g T:Nat}{vals:Array Value}(hn:own n = .obj g (.cells vals T (0,0)))(k:Nat):w.cell? ⟨g,k,none⟩=vals[k]?:=by
 have hg:w.heap[g]? = some (.cells vals T (0,0)):=by have:=h.ok n;rw[hn] at this;exact this
 simp[World.cell?,hg]
theorem Sep.thaw{N:Type}{wb w:World}{own:N->Res}(h:Sep wb w own){n:N}{g T:Nat}{vals:Array Value}(hn:own n = .obj g (.cells vals T (0,0)))(k:Nat):w.frozen? ⟨g,k,none⟩=false:=by
 have hg:w.heap[g]? = some (.cells vals T (0,0)):=by have:=h.ok n;rw[hn] at this;exact this
 simp[World.frozen?,hg]
theorem Sep.get{N:Type}{wb w:World}{own:N->Res}(h:Sep wb w own){n:N}{r:Res}(hn:own n=r):r.ok w:=by have:=h.ok n;rw[hn] at this;exact this
open Go.Maps (Keyed int_keyed keyOf_int_mk)
def ptrTo:Option Nat->Value
 | none => .pointer none
 | some q => .pointer (some ⟨q,0,none⟩)
structure zds (f:Int->Option Nat) (es:Array MapEntry):Prop where
 only:∀ e∈es.toList,∃ a q,e.key = .int .i64 a/\(Lit.int .i64 a).wf=true/\e.val=ptrTo (some q)/\f a=some q
 apart:es.toList.Pairwise (λx y=>x.key≠y.key)
 all:∀ a q,f a=some q -> ∃ e∈es.toList,e.key = .int .i64 a
def zcx(w:World)(b:Nat)(o:Obj):World:={ w with heap:=w.heap.setIfInBounds b o }
theorem zpa{w:World}{b:Nat}{o o':Obj}(h:w.heap[b]? = some o'):(zcx w b o).heap[b]? = some o:=by
 have:=(Array.getElem?_eq_some_iff.1 h).1
 simp[zcx,this]
theorem zil(w:World){b k:Nat}(o:Obj)(h:k≠b):(zcx w b o).heap[k]? = w.heap[k]?:=by simp[zcx,Ne.symm h]
theorem zds.empty:zds (λ_=>none) #[]:=⟨by simp,by simp,by simp⟩
section
variable {P:Program} {w:World} {t k e:TypeId} {b:Nat} {es:Array MapEntry} {clock:Nat} {f:Int->Option Nat}
theorem zds.keys(hk:P.underlying k=some (.int .i64))(F:zds f es):∀ x∈es.toList,∃ l,keyOf P k x.key=some l:=λx hx=>by obtain⟨a,q,h1,h2,_⟩:=F.only x hx;exact⟨_,by rw[h1];exact keyOf_int_mk hk h2⟩
theorem zds.find(hk:P.underlying k=some (.int .i64))(F:zds f es)(w:World){a:Int}(hw:(Lit.int .i64 a).wf=true) :
  (f a=none/\(Instr.findKey k (.int .i64 a) es.toList).run P w = .ok none w /\ ∀ x∈es.toList,x.key ≠ .int .i64 a) \/
  ∃ j e0 q,f a=some q/\(Instr.findKey k (.int .i64 a) es.toList).run P w = .ok (some (j,ptrTo (some q))) w/\es.toList[j]? = some e0/\e0.key = .int .i64 a:=by
 rcases (int_keyed hk).find w (keyOf_int_mk hk hw) es.toList (F.keys hk) with ⟨h1,h2⟩|⟨j,e0,h1,h2,h3⟩
 ·left;refine⟨?_,h1,h2⟩;cases hf:f a with
  | none=>rfl
  | some q =>
   obtain⟨x,hx,hxk⟩:=F.all a q hf;exact absurd hxk (h2 x hx)
 ·right;obtain⟨a',q,g1,g2,g3,g4⟩:=F.only e0 (List.mem_of_getElem? h2);rw[h3] at g1;injection g1 with _ g1
  subst g1;exact⟨j,e0,q,g4,by rw[h1,g3],h2,h3⟩
theorem zmi(ht:P.underlying t=some (.map k e))(hk:P.underlying k=some (.int .i64))(hz:∀ w,(zeroValue e).run P w = .ok (.pointer none) w)
  (hb:w.heap[b]? = some (.map es clock)) (F:zds f es) {a:Int} (hw:(Lit.int .i64 a).wf=true) :
  (Instr.lookup t (.map (some b)) (.int .i64 a) false).run P w = .ok (ptrTo (f a)) w:=by
 rcases F.find hk w hw with ⟨h0,h1,_⟩ | ⟨j,e0,q,h0,h1,_⟩ <;>
  simp[Instr.lookup,run_underlying ht,MapKept.run_getObj_map hb,(int_keyed hk).check w _ (keyOf_int_mk hk hw),h0,h1,hz,Result.andThen,ptrTo]
theorem zol(ht:P.underlying t=some (.map k e))(hk:P.underlying k=some (.int .i64))
  (hb:w.heap[b]? = some (.map es clock)) (F:zds f es) {a:Int} (hw:(Lit.int .i64 a).wf=true) (hf:f a=none) (q:Nat) :
  ∃ es' clock',(Instr.mapUpdate t (.map (some b)) (.int .i64 a) (.pointer (some ⟨q,0,none⟩))).run P w = .ok () (zcx w b (.map es' clock'))/\zds (λx=>if x=a then some q else f x) es':=by
 rcases F.find hk w hw with ⟨h0,h1,h2⟩|⟨j,e0,q',h0,_⟩
 ·refine⟨es.push ⟨.int .i64 a,.pointer (some ⟨q,0,none⟩),clock⟩,clock+1,?_,?_,?_,?_⟩
  ·simp[Instr.mapUpdate,run_underlying ht,MapKept.run_getObj_map hb,(int_keyed hk).check w _ (keyOf_int_mk hk hw),h1,MapKept.run_setObj_map _ hb,Result.andThen,zcx]
  ·intro x hx;rw[Array.toList_push,List.mem_append,List.mem_singleton] at hx;rcases hx with hx | rfl
   ·obtain⟨a',q',g1,g2,g3,g4⟩:=F.only x hx;refine⟨a',q',g1,g2,g3,?_⟩
    have:a'≠a:=λe=>h2 x hx (by rw[g1,e])
    simp[this,g4]
   ·exact⟨a,q,rfl,hw,rfl,by simp⟩
  ·rw[Array.toList_push,List.pairwise_append];exact⟨F.apart,by simp,λx hx y hy=>by rw[List.mem_singleton] at hy;subst hy;exact h2 x hx⟩
  ·intro x y hxy;by_cases e1:x=a
   ·exact⟨_,by rw[Array.toList_push,List.mem_append];exact .inr (List.mem_singleton.2 rfl),by rw[e1]⟩
   ·simp only[e1,if_false] at hxy;obtain⟨z,hz,hzk⟩:=F.all x y hxy;exact⟨z,by rw[Array.toList_push,List.mem_append];exact .inl hz,hzk⟩
 ·rw[hf] at h0;cases h0
theorem zmj{ty:TypeId}(ht:P.underlying t=some (.map k e))(hk:P.underlying k=some (.int .i64))
  (hb:w.heap[b]? = some (.map es clock)) (F:zds f es) {a:Int} (hw:(Lit.int .i64 a).wf=true) :
  ∃ es',(Builtin.delete_ #[t,k] ty #[.map (some b),.int .i64 a]).run P w = .ok (.tuple #[]) (zcx w b (.map es' clock))/\zds (λx=>if x=a then none else f x) es':=by
 rcases F.find hk w hw with ⟨h0,h1,h2⟩|⟨j,e0,q',h0,h1,h2,h3⟩
 ·refine⟨es,?_,λx hx => ?_,F.apart,λx y hxy => ?_⟩
  ·simp[Builtin.delete_,run_underlying ht,MapKept.run_getObj_map hb,(int_keyed hk).check w _ (keyOf_int_mk hk hw),h1,MapKept.run_setObj_map _ hb,Result.andThen,zcx]
  ·obtain⟨a',q',g1,g2,g3,g4⟩:=F.only x hx
   have:a'≠a:=λe=>h2 x hx (by rw[g1,e])
   exact⟨a',q',g1,g2,g3,by simp[this,g4]⟩
  ·by_cases e1:x=a
   ·simp[e1] at hxy
   ·simp only[e1,if_false] at hxy;exact F.all x y hxy
 ·have hjs:j<es.size:=by have:=(List.getElem?_eq_some_iff.1 h2).1;simpa using this
  have hsub:(es.eraseIdxIfInBounds j).toList=es.toList.eraseIdx j:=by unfold Array.eraseIdxIfInBounds;rw[dif_pos hjs];simp
  have hsl:(es.toList.eraseIdx j).Sublist es.toList:=List.eraseIdx_sublist _ _;have hne:∀ x∈es.toList.eraseIdx j,x.key ≠ .int .i64 a:=by
   intro x hx;obtain⟨i,hi,hij⟩:=List.mem_eraseIdx_iff_getElem?.1 hx;have hap:=List.pairwise_iff_getElem.1 F.apart;obtain⟨hi1,hi2⟩:=List.getElem?_eq_some_iff.1 hij;obtain⟨hj1,hj2⟩:=List.getElem?_eq_some_iff.1 h2;rcases Nat.lt_or_gt_of_ne hi with hlt | hgt
   ·have:=hap i j hi1 hj1 hlt
    rw[hi2,hj2,h3] at this;exact this
   ·have:=hap j i hj1 hi1 hgt
    rw[hi2,hj2,h3] at this;exact Ne.symm this
  refine⟨es.eraseIdxIfInBounds j,?_,λx hx => ?_,?_,λx y hxy => ?_⟩
  ·simp[Builtin.delete_,run_underlying ht,MapKept.run_getObj_map hb,(int_keyed hk).check w _ (keyOf_int_mk hk hw),h1,MapKept.run_setObj_map _ hb,Result.andThen,zcx]
  ·rw[hsub] at hx;obtain⟨a',q',g1,g2,g3,g4⟩:=F.only x (hsl.subset hx)
   have:a'≠a:=λe=>hne x hx (by rw[g1,e])
   exact⟨a',q',g1,g2,g3,by simp[this,g4]⟩
  ·rw[hsub];exact F.apart.sublist hsl
  ·by_cases e1:x=a
   ·simp[e1] at hxy
   ·simp only[e1,if_false] at hxy;obtain⟨z,hz,hzk⟩:=F.all x y hxy;refine⟨z,?_,hzk⟩;rw[hsub];obtain⟨i,hi⟩:=List.getElem?_of_mem hz;refine List.mem_eraseIdx_iff_getElem?.2 ⟨i,λij => ?_,hi⟩;subst ij;rw[h2] at hi;injection hi with hi
    subst hi;rw[h3] at hzk;injection hzk with _ hzk
    exact e1 hzk.symm
end
theorem Sep.setMap{N:Type}{wb w:World}{own:N->Res}(h:Sep wb w own){n:N}{g:Nat}{o:Obj}(hn:own n = .obj g o)(o':Obj) :
  Sep wb (zcx w g o') (upd own n (.obj g o')):=by
 have hg:w.heap[g]? = some o:=by have:=h.ok n;rw[hn] at this;exact this
 have hl:=h.low n g (by rw[hn];rfl);have hsz:(zcx w g o').heap.size=w.heap.size:=by simp[zcx]
 refine h.put n _ ?_ (Nat.le_of_eq hsz.symm) (λm b hm hb=>zil w o' (λe=>hm (h.apart m n b hb (by rw[hn];exact e)))) (zpa hg) (λb hb=>⟨.inl (by rw[hn];exact hb),by rw[show b=g from hb,hsz];exact hl.2⟩);exact Below.trans h.base ⟨rfl,rfl,rfl,Nat.le_of_eq hsz.symm,λk hk=>zil w o' (by omega)⟩
abbrev Bytes:=List UInt8
abbrev zal:=List (Bytes×Bytes)
structure St where
 id:Nat
 headers:zal:=[]
 reset:Bool:=false
 coming:Bool:=false
 mine:Bool:=false
 theirs:Bool:=false
 send:Nat:=100
 recv:Nat:=100
 unread:Bytes:=[]
 head:Bytes:=[]
 bytes:Bytes:=[]
 ending:Bool:=false
 code:Nat:=0
structure Cs where
 client:Bool
 told:Nat
 limit:Nat:=1
 own:Nat:=0
 peer:Nat:=0
 l:List St:=[]
 ring:List Nat:=[]
 send:Nat:=150
 recv:Nat:=150
 control:List Bytes:=[]
 events:List (Nat×Nat×Nat):=[]
 part:Bytes:=[]
 block:Bytes:=[]
 now:Nat:=0
 ends:Bool:=false
 pings:Nat:=0
 leaving:Bool:=false
 left:Bool:=false
 failed:Bool:=false
 cnt:Bool->Int:=λ_=>0
def two(n:Nat):Bytes:=[UInt8.ofNat (n/256),UInt8.ofNat (n%256)]
def frame(kind flags id:Nat)(body:Bytes):Bytes:=two body.length++[UInt8.ofNat kind,UInt8.ofNat flags]++two id++body
namespace Cs
def ctl(c:Cs)(kind flags id:Nat)(body:Bytes):Cs:={ c with control:=c.control++[frame kind flags id body] }
def gives(c:Cs)(id n:Nat):Cs:=if 0<n then c.ctl 7 0 id (two n) else c
def ev(c:Cs)(kind id code:Nat):Cs:={ c with events:=c.events++[(kind,id,code)] }
def owns(c:Cs)(id:Nat):Bool:=(id%2 == 1) == c.client
def known(c:Cs)(id:Int):Bool:=decide (1<=id) && (if c.owns id.toNat then decide (id.toNat<=c.own) else decide (id.toNat<=c.peer))
def at?(c:Cs)(id:Int):Option Nat:=c.l.findIdx? (λs=>(s.id:Int) == id)
def st(c:Cs)(i:Nat):St:=c.l.getD i { id:=0 }
def mod(c:Cs)(i:Nat)(f:St->St):Cs:={ c with l:=c.l.modify i f }
end Cs
namespace St
def over(s:St):Bool:=s.mine && s.theirs
def waits(s:St):Bool:=decide (0<s.head.length) || decide (0<s.bytes.length) || (s.ending && !s.mine) || decide (0<s.code)
def gone(s:St):Bool:=s.reset || s.coming
end St
namespace Cs
def count(c:Cs)(own:Bool):Int:=c.cnt own
def ringOf(ring:List Nat)(id:Nat)(w:Bool):List Nat:=(ring.filter λk=>k != id || w)++(if w && !ring.contains id then [id] else [])
def rings(c:Cs)(i:Nat):Cs:={ c with ring:=ringOf c.ring (c.st i).id (c.st i).waits }
def opens(c:Cs)(id:Nat):Cs:={ c with l:=c.l++[{ id:=id }] }
def headsGo(id:Nat):Nat->Nat->Bytes->Bytes
 | 0,_,_=>[]
 | fuel+1,kind,b=>if b.length=0 then [] else frame kind (if b.length<=64 then 2 else 0) id (b.take 64)++headsGo id fuel 2 (b.drop 64)
def heads(id:Nat)(b:Bytes):Bytes:=headsGo id b.length 1 b
def new(client:Bool)(streams:Nat):Cs:=({ client:=client,told:=streams }:Cs).ctl 4 0 0 [UInt8.ofNat streams]
def next(c:Cs):Nat:=if c.own=0 then (if c.client then 1 else 2) else c.own+2
def opened(c:Cs)(h:zal):Cs :=
 let c1:=({ c with own:=c.next }.opens c.next).mod c.l.length (λs => { s with head:=heads c.next (zah h) })
 c1.rings c.l.length
def headers?(c:Cs)(id:Int):Option zal:=(c.at? id).bind λi=>if (c.st i).headers.length=0 then none else some (c.st i).headers
def writes(c:Cs)(id:Int):Nat :=
 if c.known id=false then 6 else if c.failed then 5 else match c.at? id with
  | none=>7
  | some i=>if (c.st i).gone then 7 else if (c.st i).ending then 8 else 0
def write(c:Cs)(i:Nat)(data:Bytes):Cs:=(c.mod i (λs => { s with bytes:=s.bytes++data.take (256-s.bytes.length) })).rings i
def ended(c:Cs)(i:Nat):Cs:=(c.mod i (λs => { s with ending:=true })).rings i
def read?(c:Cs)(id most:Int):Nat :=
 if c.known id=false then 6 else if most<0 then 9 else match c.at? id with
  | none=>7
  | some i=>if (c.st i).gone then 7 else if (c.st i).unread.length=0/\(c.st i).theirs=true then 8 else 0
def readN(c:Cs)(i:Nat)(most:Nat):Nat:=min most (c.st i).unread.length
def read(c:Cs)(i:Nat)(most:Nat):Cs :=
 let n:=c.readN i most
 let s:=c.st i
 let c1:=c.mod i (λs => { s with unread:=s.unread.drop n })
 if c.failed then c1 else
  let c2:=if s.theirs then c1 else (c1.gives s.id n).mod i (λs => { s with recv:=s.recv+n })
  { (c2.gives 0 n) with recv:=c2.recv+n }
def drops(c:Cs)(i code:Nat):Cs :=
 let n:=(c.st i).unread.length
 let c1:=(c.mod i (λs => { s with unread:=[],reset:=true,head:=[],bytes:=[],ending:=false,code:=code })).rings i
 { (c1.gives 0 n) with recv:=c.recv+n }
def data(c:Cs)(i:Nat):Nat:=min (min (min (c.st i).bytes.length 64) c.send) (c.st i).send
def can(c:Cs)(i:Nat):Bool :=
 decide (0<(c.st i).head.length) || decide (0<(c.st i).code) || decide (0<c.data i) || (decide ((c.st i).bytes.length=0) && (c.st i).ending && !(c.st i).mine)
def turn(c:Cs)(i:Nat)(room:Int):Bytes×Cs :=
 let s:=c.st i
 if 0<s.head.length then
  if (s.head.length:Int)<=room then (s.head,c.mod i λs => { s with head:=[] }) else ([],c)
 else if 0<s.code then
  if 7<=room then (frame 3 0 s.id [UInt8.ofNat s.code],c.mod i λs => { s with code:=0 }) else ([],c)
 else if 0<s.bytes.length then
  let n:=min (c.data i:Int) (room-6)
  if n<1 then ([],c) else
   let last:=s.ending && decide (n.toNat=s.bytes.length)
   (frame 0 (if last then 1 else 0) s.id (s.bytes.take n.toNat),
    { (c.mod i λs => { s with mine:=s.mine || last,bytes:=s.bytes.drop n.toNat,send:=s.send-n.toNat }) with send:=c.send-n.toNat })
 else if 6<=room then (frame 0 1 s.id [],c.mod i λs => { s with mine:=true }) else ([],c)
def outCtl(room:Int):List Bytes->Bytes->List Bytes×Bytes
 | [],out=>([],out)
 | f::r,out=>if room-out.length<f.length then (f::r,out) else outCtl room r (out++f)
def ready(c:Cs):Option Nat:=c.ring.findIdx? λ(id:Nat)=>match c.at? (id:Int) with
 | none=>false
 | some i=>c.can i
def turned(c:Cs)(room:Int):Option (Bytes×Cs) :=
 c.ready.bind λk=>(c.at? (c.ring.getD k 0:Nat)).bind λi =>
  let t:=c.turn i room
  if t.1.length=0 then none else some (t.1,{ t.2 with ring:=c.ring.eraseIdx k }.rings i)
def comes(c:Cs)(fin:Bool)(id:Nat)(body:Bytes):Cs×Nat :=
 let n:=body.length
 if c.recv<n then (c,2) else
  let c1:={ c with recv:=c.recv-n }
  let back:={ (c1.gives 0 n) with recv:=c.recv }
  match c.at? (id:Int) with
  | none=>(back,0)
  | some i =>
   if (c.st i).reset then (back,0)
   else if (c.st i).theirs then (c1,4)
   else if (c.st i).recv<n then (c1,2)
   else
    let c2:=c1.mod i λs => { s with recv:=s.recv-n,unread:=s.unread++body }
    if fin then ((c2.mod i λs => { s with theirs:=true }).ev 2 id 0,0) else (c2,0)
def joined(c:Cs)(whole:Bool)(id:Nat)(body:Bytes):Cs×Nat :=
 let c1:={ c with block:=c.block++body }
 if 1000<c1.block.length then (c1,3)
 else if whole=false then (c1,0)
 else match unpacks c1.block with
  | none=>(c1,5)
  | some h =>
   let i:=(c1.at? (id:Int)).getD 0
   let n:=c1.count false
   let c2:={ c1 with now:=0,block:=[] }.mod i λs => { s with coming:=false }
   if (c.told:Int)<=n\/c.leaving=true then (c2.drops i 6,0)
   else
    let c3:=(c2.mod i λs => { s with headers:=h }).ev 1 id 0
    if c.ends then ((c3.mod i λs => { s with theirs:=true }).ev 2 id 0,0) else (c3,0)
def begins(c:Cs)(fin:Bool)(id:Nat):Cs :=
 { c with peer:=id,now:=id,ends:=fin,block:=[],l:=c.l++[{ id:=id,coming:=true }] }
def blocks(c:Cs)(kind:Nat)(fin whole:Bool)(id:Nat)(body:Bytes):Cs×Nat :=
 if kind=2 then (if c.now=0 then (c,1) else c.joined whole id body)
 else if id=0\/c.owns id=true\/id<=c.peer then (c,1)
 else (c.begins fin id).joined whole id body
def broken(c:Cs)(id code:Nat):Cs:=match c.at? (id:Int) with
 | none=>c
 | some i=>if (c.st i).reset || (c.st i).over then c else (c.ev 3 id code).drops i 0
def settings(c:Cs)(ack:Bool)(b:Nat):Cs×Nat :=
 if ack then (c,0) else if 6<b then (c,1) else ({ c with limit:=b }.ctl 4 1 0 [],0)
def window(c:Cs)(id n:Nat):Cs×Nat :=
 if n=0 then (c,1)
 else if id=0 then (if 1000<c.send+n then (c,2) else ({ c with send:=c.send+n },0))
 else match c.at? (id:Int) with
  | none=>(c,0)
  | some i=>if (c.st i).reset || (c.st i).mine then (c,0) else if 1000<(c.st i).send+n then (c,2) else (c.mod i λs => { s with send:=s.send+n },0)
def wants(kind:Nat)(flag:Bool):Option Nat :=
 if kind=3 then some 1 else if kind=4 then some (if flag then 0 else 1) else if kind=5\/kind=7 then some 2 else if kind=6 then some 3 else none
def offSize(kind:Nat)(flag:Bool)(n:Nat):Bool:=match wants kind flag with
 | none=>false
 | some w=>n != w
def num(b:Bytes)(k:Nat):Nat:=(b.getD k 0).toNat*256+(b.getD (k+1) 0).toNat
def done(c:Cs)(kind flags id:Nat)(body:Bytes):Cs×Nat :=
 let flag:=flags%2 == 1
 let whole:=flags/2%2 == 1
 if 0<c.now/\(kind≠2\/id≠c.now) then (c,1)
 else if 7<kind then (c,0)
 else if (kind=0\/kind=3)/\c.known id=false then (c,1)
 else if (kind=4\/kind=5\/kind=6)/\id≠0 then (c,1)
 else if kind=7/\id≠0/\c.known id=false then (c,1)
 else if offSize kind flag body.length then (c,3)
 else if kind=0 then c.comes flag id body
 else if kind=1\/kind=2 then c.blocks kind flag whole id body
 else if kind=3 then (c.broken id (body.getD 0 0).toNat,0)
 else if kind=4 then c.settings flag (body.getD 0 0).toNat
 else if kind=5 then (if flag then c.ev 4 0 (num body 0) else c.ctl 5 1 0 body,0)
 else if kind=6 then ({ c with left:=true }.ev 5 (num body 0) (body.getD 2 0).toNat,0)
 else c.window id (num body 0)
def asked(c:Cs):Cs:={ c with events:=[] }
end Cs
structure DS where
 id:Nat:=0
 mine:Bool:=true
 state:Nat:=0
 from_:Int:=0
 to_:Int:=0
 headers:zal:=[]
 block:Bytes:=[]
 data:Bytes:=[]
 ends:Bool:=false
 unread:Bytes:=[]
 code:Nat:=0
 kept:Bool:=true
def zav(s:Nat):Bool:=s == 1 || s == 2 || s == 3 || s == 5 || s == 6
def zaw(s:Nat):Bool:=s == 1 || s == 3
def zce(s:Nat):Bool:=s == 3 || s == 4
def zbx(s:Nat):Bool:=s == 5 || s == 6 || s == 7 || s == 8
def zan(s:Nat):Bool:=s == 5 || s == 6 || s == 7
def DS.waits(s:DS):Bool:=decide (s.block≠[]) || zan s.state || decide (0<s.data.length) || (s.ends && zaw s.state)
structure Ds where
 client:Bool
 mLast:Nat:=0
 mMost:Nat:=1
 mCount:Int:=0
 tLast:Nat:=0
 tMost:Nat
 tCount:Int:=0
 from_:Int:=150
 to_:Int:=150
 ctl:List (Nat×Nat×Nat×Bytes):=[]
 ring:List Nat:=[]
 ev:List (Nat×Nat×Nat):=[]
 inn:Bytes:=[]
 coming:Option (Nat×Bool×Bytes):=none
 pings:Nat:=0
 leaving:Bool:=false
 peerLeaves:Bool:=false
 failed:Bool:=false
 str:Nat->Option DS:=λ_=>none
namespace Ds
def side(d:Ds)(id:Int):Option Bool:=if 0<id then some ((id%2 == 1) == d.client) else none
def last(d:Ds)(m:Bool):Nat:=if m then d.mLast else d.tLast
def known(d:Ds)(id:Int):Bool:=match d.side id with
 | none=>false
 | some m=>decide (id<=(d.last m:Int))
def held(d:Ds)(m:Bool)(n:Nat):Option DS:=match d.str n with
 | none=>none
 | some s=>if s.kept && s.mine == m then some s else none
def real(d:Ds)(id:Int):Option DS:=match d.side id with
 | none=>none
 | some m=>if id<=(d.last m:Int) then d.held m id.toNat else none
def find(d:Ds)(id:Int):DS:=match d.real id with
 | some s=>s
 | none=>if d.known id then { state:=8 } else {}
def setS(d:Ds)(n:Nat)(s:DS):Ds:={ d with str:=λk=>if k=n then some s else d.str k }
def lay(d:Ds)(kind flags id:Nat)(body:Bytes):Ds:={ d with ctl:=d.ctl++[(kind,flags,id,body)] }
def enter(d:Ds)(n:Nat):Ds:=if d.ring.contains n then d else { d with ring:=d.ring++[n] }
def place(d:Ds)(s:DS):Ds:=if s.waits then d.enter s.id else { d with ring:=d.ring.filter (λk=>k != s.id) }
def tell(d:Ds)(kind id code:Nat):Ds:={ d with ev:=d.ev++[(kind,id,code)] }
def layAway(d:Ds)(code:Nat):Ds:=d.lay 6 0 0 (two d.tLast++[UInt8.ofNat code])
def fail(d:Ds)(code:Nat):Ds :=
 let d1:Ds:={ d with failed:=true,str:=(λk=>if d.ring.contains k then (d.str k).map (λs => { s with block:=[],data:=[] }) else d.str k),ring:=[],inn:=[],coming:=none }
 (d1.layAway code).tell 6 0 code
def bump(d:Ds)(m:Bool)(k:Int):Ds:=if m then { d with mCount:=d.mCount+k } else { d with tCount:=d.tCount+k }
def moved(s:DS)(to:Nat):DS:={ s with state:=to,kept:=s.kept && !(to == 8 && s.headers.isEmpty) }
def shift(s:DS)(to:Nat):Int:=(if zav to then 1 else 0)-(if zav s.state then 1 else 0)
def move(d:Ds)(s:DS)(to:Nat):Ds:=(d.bump s.mine (shift s to)).setS s.id (moved s to)
def hereTo(s:DS):Nat:=if s.state=3 then 4 else 2
def thereTo(s:DS):Option Nat:=if s.state=1 then some 3 else if s.state=2 then some 4 else if s.state=6 then some 7 else none
def endThere(d:Ds)(s:DS):Ds:=match thereTo s with
 | some t=>d.move s t
 | none=>d
def breakTo(s:DS):Nat:=if s.block≠[] then 8 else if s.state=2 then 6 else 5
def breakHere(d:Ds)(s:DS)(code:Nat):Ds:=d.move { s with code:=code } (breakTo s)
def give0(d:Ds)(n:Nat):Ds:=({ d with to_:=d.to_+n }).lay 7 0 0 (two n)
def giveS(d:Ds)(s:DS)(n:Nat):Ds:=(d.setS s.id { s with to_:=s.to_+n }).lay 7 0 s.id (two n)
def drop(d:Ds)(s:DS):Ds :=
 let s1:={ s with block:=[],data:=[] }
 let d1:=(d.setS s.id s1).place s1
 if 0<s.unread.length then (d1.setS s.id { s1 with unread:=[] }).give0 s.unread.length else d1
def stOf(d:Ds)(n:Nat):DS:=(d.str n).getD {}
def begun(id:Nat)(m:Bool):DS:={ id:=id,mine:=m,state:=1,from_:=100,to_:=100 }
def keep(d:Ds)(m:Bool)(id:Nat):Ds:=(d.bump m 1).setS id (begun id m)
def new(client:Bool)(streams:Nat):Ds:=({ client:=client,tMost:=streams }:Ds).lay 4 0 0 [UInt8.ofNat streams]
def next(d:Ds):Nat:=if d.mLast=0 then (if d.client then 1 else 2) else d.mLast+2
def open?(d:Ds)(h:zal):Nat :=
 if zbi h=false then 2 else if d.failed || d.peerLeaves || d.leaving then 5 else if (d.mMost:Int)<=d.mCount\/99<d.next then 4 else 0
def opened(d:Ds)(h:zal):Ds :=
 let n:=d.next
 (({ d with mLast:=n }.bump true 1).setS n { begun n true with block:=zah h }).enter n
def headers?(d:Ds)(id:Int):Option zal:=if 0<=id then (d.held false id.toNat).bind λs=>if s.headers=[] then none else some s.headers else none
def unwritable(d:Ds)(s:DS):Nat:=if s.state=0 then 6 else if d.failed then 5 else if zbx s.state then 7 else if s.ends then 8 else 0
def room(s:DS)(data:Bytes):Nat:=min data.length (256-s.data.length)
def write(d:Ds)(s:DS)(data:Bytes):Ds:=if room s data=0 then d else (d.setS s.id { s with data:=s.data++data.take (room s data) }).enter s.id
def endIt(d:Ds)(s:DS):Ds:=(d.setS s.id { s with ends:=true }).enter s.id
def read?(s:DS)(most:Int):Nat:=if s.state=0 then 6 else if most<0 then 9 else if zbx s.state then 7 else if s.unread.length=0/\zce s.state=true then 8 else 0
def readN(s:DS)(most:Int):Nat:=min most.toNat s.unread.length
def read(d:Ds)(s:DS)(n:Nat):Ds :=
 let s1:={ s with unread:=s.unread.drop n }
 let d1:=d.setS s.id s1
 if n=0\/d.failed=true then d1 else (if zce s.state then d1 else d1.giveS s1 n).give0 n
def asked(d:Ds):Ds:={ d with ev:=[] }
def takeEnd(d:Ds)(s:DS):Ds:=(d.endThere s).tell 2 s.id 0
def passOver(d:Ds)(s:DS)(fin:Bool)(n:Nat):Ds :=
 let d1:=if 0<n then d.give0 n else d
 if fin then d1.endThere s else d1
def doData(d:Ds)(fin:Bool)(id:Nat)(body:Bytes):Ds :=
 let s:=d.find id
 let n:=body.length
 if s.state=0 then d.fail 1
 else if d.to_<n then d.fail 2
 else
  let d1:={ d with to_:=d.to_-n }
  if zbx s.state then d1.passOver s fin n
  else if zce s.state then d1.fail 4
  else if s.to_<n then d1.fail 2
  else
   let s1:={ s with to_:=s.to_-n,unread:=s.unread++body }
   let d2:=d1.setS s.id s1
   if fin then d2.takeEnd s1 else d2
def doReset(d:Ds)(id:Nat)(body:Bytes):Ds :=
 let s:=d.find id
 if s.state=0 then d.fail 1
 else if body.length≠1 then d.fail 3
 else if zan s.state then d.move s 7
 else if s.state=4\/s.state=8 then d
 else ((d.move s 8).drop (moved s 8)).tell 3 s.id (body.getD 0 0).toNat
def refuse(d:Ds)(id:Nat):Ds :=
 let d1:=d.keep false id
 (d1.breakHere (begun id false) 6).place (moved { begun id false with code:=6 } 5)
def accept(d:Ds)(id:Nat)(fin:Bool)(h:zal):Ds :=
 let s:={ begun id false with headers:=h }
 let d1:=((d.keep false id).setS id s).tell 1 id 0
 if fin then d1.takeEnd s else d1
def takeHeaders(d:Ds)(id:Nat)(fin whole:Bool)(sofar body:Bytes):Ds :=
 let b:=sofar++body
 let d1:={ d with coming:=some (id,fin,b) }
 if 1000<b.length then d1.fail 3
 else if whole=false then d1
 else match unpacks b with
  | none=>d1.fail 5
  | some h =>
   let d2:={ d with coming:=none }
   if (d.tMost:Int)<=d.tCount\/d.leaving=true then d2.refuse id else d2.accept id fin h
def doOpen(d:Ds)(fin whole:Bool)(id:Nat)(body:Bytes):Ds :=
 if d.side id=some false/\d.tLast<id then ({ d with tLast:=id }).takeHeaders id fin whole [] body else d.fail 1
def doMore(d:Ds)(whole:Bool)(body:Bytes):Ds:=match d.coming with
 | none=>d.fail 1
 | some (id,fin,b)=>d.takeHeaders id fin whole b body
def doSettings(d:Ds)(ack:Bool)(id:Nat)(body:Bytes):Ds :=
 if id≠0 then d.fail 1
 else if ack then (if 0<body.length then d.fail 3 else d)
 else if body.length≠1 then d.fail 3
 else if 6<(body.getD 0 0).toNat then d.fail 1
 else ({ d with mMost:=(body.getD 0 0).toNat }).lay 4 1 0 []
def doPing(d:Ds)(ack:Bool)(id:Nat)(body:Bytes):Ds :=
 if id≠0 then d.fail 1
 else if body.length≠2 then d.fail 3
 else if ack then d.tell 4 0 (Cs.num body 0)
 else d.lay 5 1 0 body
def doAway(d:Ds)(id:Nat)(body:Bytes):Ds :=
 if id≠0 then d.fail 1
 else if body.length≠3 then d.fail 3
 else ({ d with peerLeaves:=true }).tell 5 (Cs.num body 0) (body.getD 2 0).toNat
def doWindow(d:Ds)(id:Nat)(body:Bytes):Ds :=
 let s:=d.find id
 let n:=Cs.num body 0
 if id≠0/\s.state=0 then d.fail 1
 else if body.length≠2 then d.fail 3
 else if n=0 then d.fail 1
 else if id=0 then (if 1000<d.from_+n then d.fail 2 else { d with from_:=d.from_+n })
 else if zaw s.state then (if 1000<s.from_+n then d.fail 2 else d.setS s.id { s with from_:=s.from_+n })
 else d
def off(d:Ds)(kind id:Nat):Bool:=match d.coming with
 | none=>false
 | some (n,_,_)=>kind != 2 || id != n
def done(d:Ds)(kind flags id:Nat)(body:Bytes):Ds :=
 let fin:=flags%2 == 1
 let whole:=flags/2%2 == 1
 if d.off kind id then d.fail 1
 else if kind=0 then d.doData fin id body
 else if kind=1 then d.doOpen fin whole id body
 else if kind=2 then d.doMore whole body
 else if kind=3 then d.doReset id body
 else if kind=4 then d.doSettings fin id body
 else if kind=5 then d.doPing fin id body
 else if kind=6 then d.doAway id body
 else if kind=7 then d.doWindow id body
 else d
def looks:Nat->Ds->Ds
 | 0,d=>d
 | fuel+1,d =>
  if d.failed\/d.inn.length<6 then d
  else
   let n:=Cs.num d.inn 0
   if 64<n then d.fail 3
   else if d.inn.length<6+n then d
   else
    let f:=d.inn.take (6+n)
    looks fuel ({ d with inn:=d.inn.drop (6+n) }.done (f.getD 2 0).toNat (f.getD 3 0).toNat (Cs.num f 4) (f.drop 6))
def takes(d:Ds)(b:Bytes):Ds:=if d.failed then d else let d1:={ d with inn:=d.inn++b };looks (d1.inn.length+1) d1
def canGo(d:Ds)(s:DS):Bool:=decide (s.block≠[]) || decide (s.data.length=0) || decide (0<min s.from_ d.from_)
def hframes(id:Nat):Nat->Nat->Bytes->Bytes
 | 0,kind,b=>frame kind 2 id b
 | fuel+1,kind,b=>if 64<b.length then frame kind 0 id (b.take 64)++hframes id fuel 2 (b.drop 64) else frame kind 2 id b
def headerFrames(id:Nat)(b:Bytes):Bytes:=hframes id b.length 1 b
def dataN(d:Ds)(s:DS)(room:Int):Int:=min (min (min (min (s.data.length:Int) 64) s.from_) d.from_) (room-6)
def turn(d:Ds)(s:DS)(room:Int):Bytes×Ds×DS :=
 if s.block≠[] then
  let f:=headerFrames s.id s.block
  if room<f.length then ([],d,s) else let s1:={ s with block:=[] };(f,d.setS s.id s1,s1)
 else if zan s.state then
  if room<7 then ([],d,s) else (frame 3 0 s.id [UInt8.ofNat s.code],d.move s 8,moved s 8)
 else if room<6+min s.data.length 1 then ([],d,s)
 else
  let n:=d.dataN s room
  let s1:={ s with data:=s.data.drop n.toNat,from_:=s.from_-n }
  let d1:={ d with from_:=d.from_-n }.setS s.id s1
  if s1.data.length=0/\s.ends=true then (frame 0 1 s.id (s.data.take n.toNat),d1.move s1 (hereTo s1),moved s1 (hereTo s1))
  else (frame 0 0 s.id (s.data.take n.toNat),d1,s1)
def leave(d:Ds)(k:Nat)(s:DS):Ds :=
 let d1:={ d with ring:=d.ring.eraseIdx k }
 if s.waits then d1.enter s.id else d1
def ready(d:Ds):Option Nat:=d.ring.findIdx? λn=>d.canGo (d.stOf n)
def outCtl(room:Int):List (Nat×Nat×Nat×Bytes)->Bytes->List (Nat×Nat×Nat×Bytes)×Bytes
 | [],out=>([],out)
 | (k,f,i,b)::r,out=>if room-out.length<6+b.length then ((k,f,i,b)::r,out) else outCtl room r (out++frame k f i b)
def turned(d:Ds)(room:Int):Option (Bytes×Ds):=match d.ready with
 | none=>none
 | some k =>
  let t:=d.turn (d.stOf (d.ring.getD k 0)) room
  if t.1.length=0 then none else some (t.1,t.2.1.leave k t.2.2)
def outRing(room:Int):Nat->Ds->Bytes->Ds×Bytes
 | 0,d,out=>(d,out)
 | fuel+1,d,out=>match d.turned (room-out.length) with
  | none=>(d,out)
  | some (b,d')=>outRing room fuel d' (out++b)
def out(d:Ds)(room:Int):Ds×Bytes :=
 let r:=outCtl room d.ctl []
 let d1:={ d with ctl:=r.1 }
 if r.1.length=0 then outRing room (room.toNat+1) d1 r.2 else (d1,r.2)
end Ds
end Go.Proofs.YtoijpogadkogcaaGreat
