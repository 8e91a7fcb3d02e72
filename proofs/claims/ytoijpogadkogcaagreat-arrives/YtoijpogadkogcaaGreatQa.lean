import Derived.Test.YtoijpogadkogcaaGreatRows
import Derived.WalkKit
import Derived.WalkSpells
import Derived.WalkLawsBesides
import Derived.Deep.AppendSrc
namespace Go.Proofs.YtoijpogadkogcaaGreat
def zgl(c:UInt8):Bool:=(97<=c && c<=122) || (48<=c && c<=57) || c == 45
def zfo(l:List UInt8):Bool:=decide (1<=l.length) && decide (l.length<=20) && (l.drop (if l.head? = some 58/\1<l.length then 1 else 0)).all zgl
def zru(c:UInt8):Bool:=32<=c && c<=126
def zft(l:List UInt8):Bool:=decide (l.length<=60) && l.all zru
def zbs(p:List UInt8×List UInt8):Bool:=zfo p.1 && zft p.2
def tbl:List (List UInt8×List UInt8) :=
 [([58,109,101,116,104,111,100],[71,69,84]),([58,109,101,116,104,111,100],[80,85,84]),([58,112,97,116,104],[47]),([58,112,97,116,104],[47,105,110,100,101,120]),
  ([58,115,116,97,116,117,115],[50,48,48]),([58,115,116,97,116,117,115],[52,48,52]),([58,115,116,97,116,117,115],[53,48,48]),([97,99,99,101,112,116],[]),
  ([97,103,101],[]),([99,111,111,107,105,101],[]),([100,97,116,101],[]),([104,111,115,116],[]),([108,101,110,103,116,104],[]),([115,101,114,118,101,114],[]),
  ([116,121,112,101],[116,101,120,116]),([116,121,112,101],[106,115,111,110])]
def least(q:List UInt8×List UInt8->Bool):List (List UInt8×List UInt8)->Nat
 | []=>0
 | a::r=>if q a then 1 else if least q r=0 then 0 else least q r+1
def zjg(p a:List UInt8×List UInt8):Bool:=(a.2 != []) && (a == p)
def zhw(n:List UInt8)(a:List UInt8×List UInt8):Bool:=a.1 == n
def zdk(p:List UInt8×List UInt8):Nat:=least (zjg p) tbl
def zcb(n:List UInt8):Nat:=least (zhw n) tbl
theorem zkj(q:List UInt8×List UInt8->Bool)(l:List (List UInt8×List UInt8)):least q l<=l.length:=by
 induction l with
 | nil=>simp[least]
 | cons a r ih =>
  simp only[least,List.length_cons];split<;>try split<;>omega
  omega
theorem zle(q:List UInt8×List UInt8->Bool)(l:List (List UInt8×List UInt8))(h:0<least q l):q (l.getD (least q l-1) ([],[]))=true:=by
 induction l with
 | nil=>simp[least] at h
 | cons a r ih =>
  by_cases ha:q a=true
  ·simp[least,ha]
  ·by_cases hr:least q r=0
   ·simp[least,ha,hr] at h
   ·have:=ih (by omega)
    have e:least q (a::r)=least q r+1:=by simp[least,ha,hr]
    obtain⟨m,hm⟩:∃ m,least q r=m+1:=⟨least q r-1,by omega⟩;rw[e,hm];rw[hm] at this;simpa using this
theorem zrv(q:List UInt8×List UInt8->Bool)(l:List (List UInt8×List UInt8))(k:Nat)(hk:k<l.length)(h:q (l.getD k ([],[]))=true):0<least q l/\least q l<=k+1:=by
 induction l generalizing k with
 | nil=>simp at hk
 | cons a r ih =>
  by_cases ha:q a=true
  ·simp[least,ha]
  ·cases k with
   | zero=>simp at h;exact absurd h ha
   | succ k =>
    have:=ih k (by simpa using hk) (by simpa using h)
    have e:least q (a::r)=least q r+1:=by simp only[least,ha];rw[if_neg (by simp),if_neg (by omega)]
    omega
theorem zqt(q:List UInt8×List UInt8->Bool)(l:List (List UInt8×List UInt8))(k:Nat)(hk:k<l.length)(hno:∀ j,j<k->q (l.getD j ([],[]))=false)(h:q (l.getD k ([],[]))=true):least q l=k+1:=by
 have h1:=zrv q l k hk h;have h2:=zle q l h1.1;by_cases hlt:least q l-1<k
 ·rw[hno _ hlt] at h2;cases h2
 ·omega
theorem zta(q:List UInt8×List UInt8->Bool)(l:List (List UInt8×List UInt8))(hno:∀ j,j<l.length->q (l.getD j ([],[]))=false):least q l=0:=by
 by_cases h:0<least q l
 ·have h2:=zle q l h
  have:=zkj q l
  rw[hno _ (by omega)] at h2;cases h2
 ·omega
def zbj(high full n:Nat):List UInt8:=if n<full then [UInt8.ofNat (high+n)] else [UInt8.ofNat (high+full),UInt8.ofNat (n-full)]
def zcy(l:List UInt8):List UInt8:=zbj 0 31 l.length++l
def zdn(p:List UInt8×List UInt8):List UInt8 :=
 if 0<zdk p then zbj 128 7 (zdk p)
 else if 0<zcb p.1 then zbj 64 7 (zcb p.1)++zcy p.2
 else 0::(zcy p.1++zcy p.2)
def zah:List (List UInt8×List UInt8)->List UInt8
 | []=>[]
 | p::r=>zdn p++zah r
def zcd:Nat->Nat->Nat->List UInt8->Option (Nat×List UInt8)
 | 0,_,_,_=>none
 | _+1,_,_,[]=>none
 | f+1,acc,i,c::r =>
  if 128<=c.toNat then zcd f (acc+c.toNat%128*2 ^ (7*i)) (i+1) r
  else if 9999<acc+c.toNat%128*2 ^ (7*i) then none else some (acc+c.toNat%128*2 ^ (7*i),r)
def zbr(full:Nat):List UInt8->Option (Nat×List UInt8)
 | []=>none
 | c::r=>if c.toNat%(full+1)<full then some (c.toNat%(full+1),r) else zcd 3 full 0 r
def zeb:List UInt8->Option (List UInt8×List UInt8)
 | []=>none
 | c::r=>if 31<c.toNat then none else
  match zbr 31 (c::r) with
  | none=>none
  | some (n,rest)=>if rest.length<n then none else some (rest.take n,rest.drop n)
def zfx(l:List UInt8):Option ((List UInt8×List UInt8)×List UInt8) :=
 match zbr 7 l with
 | none=>none
 | some (n,rest)=>if n<1\/16<n then none else some (tbl.getD (n-1) ([],[]),rest)
def zrw(l:List UInt8):Option ((List UInt8×List UInt8)×List UInt8) :=
 match zfx l with
 | none=>none
 | some (p,rest)=>if p.2=[] then none else some (p,rest)
def zrx(l:List UInt8):Option ((List UInt8×List UInt8)×List UInt8) :=
 match zfx l with
 | none=>none
 | some (p,rest)=>match zeb rest with
  | none=>none
  | some (v,rest')=>some ((p.1,v),rest')
def zry(r:List UInt8):Option ((List UInt8×List UInt8)×List UInt8) :=
 match zeb r with
 | none=>none
 | some (n,rest)=>match zeb rest with
  | none=>none
  | some (v,rest')=>some ((n,v),rest')
def zcz:List UInt8->Option ((List UInt8×List UInt8)×List UInt8)
 | []=>none
 | c::r=>if c.toNat/8=16 then zrw (c::r) else if c.toNat/8=8 then zrx (c::r) else if c.toNat=0 then zry r else none
def zbt(l:List UInt8):Option ((List UInt8×List UInt8)×List UInt8) :=
 match zcz l with
 | none=>none
 | some (p,rest)=>if zbs p=true then some (p,rest) else none
def zfb:Nat->List UInt8->Option (List (List UInt8×List UInt8))
 | _,[]=>some []
 | 0,_::_=>none
 | k+1,c::r=>match zbt (c::r) with
  | none=>none
  | some (p,rest)=>match zfb k rest with
   | none=>none
   | some m=>some (p::m)
theorem zkk(high full n:Nat):(zbj high full n).length=if n<full then 1 else 2:=by unfold zbj;split<;>rfl
theorem zep(high full n:Nat):1<=(zbj high full n).length/\(zbj high full n).length<=2:=by rw[zkk];split<;>omega
theorem zvz(high high' full n m:Nat)(h:n<=m):(zbj high full n).length<=(zbj high' full m).length:=by rw[zkk,zkk];split<;>split<;>omega
theorem zfh(l:List UInt8):(zcy l).length=(if l.length<31 then 1 else 2)+l.length:=by unfold zcy;rw[List.length_append,zkk]
theorem zzbbg(f acc i n:Nat)(l rest:List UInt8)(h:zcd f acc i l=some (n,rest)):rest.length+1<=l.length:=by
 induction f generalizing acc i l with
 | zero=>simp[zcd] at h
 | succ f ih =>
  cases l with
  | nil=>simp[zcd] at h
  | cons c r =>
   simp only[zcd] at h;split at h
   ·have:=ih _ _ _ h;simp only[List.length_cons];omega
   ·split at h
    ·cases h
    ·simp only[Option.some.injEq,Prod.mk.injEq] at h;rw[<-h.2];simp
theorem zzbee(f acc i n:Nat)(l rest:List UInt8)(h:zcd f acc i l=some (n,rest)):n<=9999:=by
 induction f generalizing acc i l with
 | zero=>simp[zcd] at h
 | succ f ih =>
  cases l with
  | nil=>simp[zcd] at h
  | cons c r =>
   simp only[zcd] at h;split at h
   ·exact ih _ _ _ h
   ·split at h
    ·cases h
    ·simp only[Option.some.injEq,Prod.mk.injEq] at h;omega
theorem zrz(high full n:Nat)(l rest:List UInt8)(h:zbr full l=some (n,rest)):(zbj high full n).length+rest.length<=l.length:=by
 cases l with
 | nil=>simp[zbr] at h
 | cons c r =>
  simp only[zbr] at h;rw[zkk];split at h
  ·simp only[Option.some.injEq,Prod.mk.injEq] at h;obtain⟨rfl,rfl⟩:=h;rw[if_pos (by assumption)];simp only[List.length_cons];omega
  ·have:=zzbbg _ _ _ _ _ _ h;simp only[List.length_cons];split<;>omega
theorem zim(l v rest:List UInt8)(h:zeb l=some (v,rest)):(zcy v).length+rest.length<=l.length:=by
 cases l with
 | nil=>simp[zeb] at h
 | cons c r =>
  simp only[zeb] at h;split at h
  ·cases h
  ·split at h
   ·cases h
   ·rename_i n rs hn
    split at h
    ·cases h
    ·have h1:=zrz 0 31 n _ _ hn;simp only[Option.some.injEq,Prod.mk.injEq] at h;obtain⟨rfl,rfl⟩:=h;unfold zcy;have hl:(rs.take n).length=n:=by rw[List.length_take];omega
     rw[List.length_append,hl,List.length_drop];omega
theorem zqc(l rest:List UInt8)(p:List UInt8×List UInt8)(h:zfx l=some (p,rest)):∃ n,1<=n/\n<=16/\p=tbl.getD (n-1) ([],[])/\(∀ high,(zbj high 7 n).length+rest.length<=l.length):=by
 unfold zfx at h;split at h
 ·cases h
 ·rename_i n rs hn
  split at h
  ·cases h
  ·simp only[Option.some.injEq,Prod.mk.injEq] at h;obtain⟨rfl,rfl⟩:=h;exact⟨n,by omega,by omega,rfl,λhigh=>zrz high 7 n _ _ hn⟩
theorem zzbef(l rest:List UInt8)(p:List UInt8×List UInt8)(h:zcz l=some (p,rest)):(zdn p).length+rest.length<=l.length:=by
 cases l with
 | nil=>simp[zcz] at h
 | cons c r =>
  simp only[zcz] at h;split at h
  ·unfold zrw at h;split at h
   ·cases h
   ·rename_i q rs hq
    split at h
    ·cases h
    ·rename_i hv
     simp only[Option.some.injEq,Prod.mk.injEq] at h;obtain⟨rfl,rfl⟩:=h;obtain⟨n,h1,h2,hp,hl⟩:=zqc _ _ _ hq;have hw:=zrv (zjg q) tbl (n-1) (by show n-1<16;omega) (by rw[<-hp];simp[zjg,hv]);have hl:=hl 128;have hm:=zvz 128 128 7 (zdk q) n (by unfold zdk;omega);unfold zdn;rw[if_pos (by unfold zdk;exact hw.1)];omega
  ·split at h
   ·unfold zrx at h;split at h
    ·cases h
    ·rename_i q rs hq
     split at h
     ·cases h
     ·rename_i v rs' hv
      simp only[Option.some.injEq,Prod.mk.injEq] at h;obtain⟨rfl,rfl⟩:=h;obtain⟨n,h1,h2,hp,hl⟩:=zqc _ _ _ hq;have hl:=hl 64;have hd:=zim _ _ _ hv;have ht:=zfh v;have hw:=zrv (zhw q.1) tbl (n-1) (by show n-1<16;omega) (by rw[<-hp];simp[zhw]);have hm:=zvz 64 64 7 (zcb q.1) n (by unfold zcb;omega);have hb:=zep 128 7 (zdk (q.1,v));have hb':=zep 64 7 n;have ht1:1<=(zcy v).length:=by rw[ht];split<;>omega
      unfold zdn;split
      ·omega
      ·rw[if_pos (by unfold zcb;exact hw.1),List.length_append]
       show (zbj 64 7 (zcb q.1)).length+(zcy v).length+_<=_
       omega
   ·split at h
    ·unfold zry at h;split at h
     ·cases h
     ·rename_i n rs hn
      split at h
      ·cases h
      ·rename_i v rs' hv
       simp only[Option.some.injEq,Prod.mk.injEq] at h;obtain⟨rfl,rfl⟩:=h;have hd:=zim _ _ _ hn;have hd':=zim _ _ _ hv;have ht:=zfh v;have ht':=zfh n;have ht1:1<=(zcy v).length:=by rw[ht];split<;>omega
       have ht2:1<=(zcy n).length:=by rw[ht'];split<;>omega
       have hb:=zep 128 7 (zdk (n,v));have hb':=zep 64 7 (zcb n);rw[List.length_cons];unfold zdn;split
       ·omega
       ·split
        ·rw[List.length_append]
         show (zbj 64 7 (zcb n)).length+(zcy v).length+_<=_
         omega
        ·rw[List.length_cons,List.length_append]
         show (zcy n).length+(zcy v).length+1+_<=_
         omega
    ·cases h
theorem zna(p:List UInt8×List UInt8):1<=(zdn p).length:=by
 have hb:=zep 128 7 (zdk p);have hb':=zep 64 7 (zcb p.1);unfold zdn;split
 ·omega
 ·split
  ·rw[List.length_append];omega
  ·rw[List.length_cons];omega
theorem zyh(l rest:List UInt8)(p:List UInt8×List UInt8)(h:zbt l=some (p,rest)):zbs p=true/\(zdn p).length+rest.length<=l.length:=by
 unfold zbt at h;split at h
 ·cases h
 ·rename_i q rs hq
  split at h
  ·simp only[Option.some.injEq,Prod.mk.injEq] at h;obtain⟨rfl,rfl⟩:=h;exact⟨by assumption,zzbef _ _ _ hq⟩
  ·cases h
theorem zzbjc(k:Nat)(l:List UInt8)(m:List (List UInt8×List UInt8))(h:zfb k l=some m):m.length<=k/\(∀ p∈m,zbs p=true)/\(zah m).length<=l.length/\(l≠[]->m≠[]):=by
 induction k generalizing l m with
 | zero =>
  cases l with
  | nil=>simp only[zfb,Option.some.injEq] at h;subst h;simp[zah]
  | cons c r=>simp[zfb] at h
 | succ k ih =>
  cases l with
  | nil=>simp only[zfb,Option.some.injEq] at h;subst h;simp[zah]
  | cons c r =>
   simp only[zfb] at h;split at h
   ·cases h
   ·rename_i p rest hp
    split at h
    ·cases h
    ·rename_i m' hm
     simp only[Option.some.injEq] at h;subst h;obtain⟨h1,h2,h3,_⟩:=ih _ _ hm;obtain⟨g1,g2⟩:=zyh _ _ _ hp;refine⟨by simp;omega,?_,?_,by simp⟩
     ·intro q hq;rcases List.mem_cons.1 hq with rfl | hq
      ·exact g1
      ·exact h2 _ hq
     ·show (zdn p++zah m').length<=_
      rw[List.length_append];omega
theorem zyi(high full n:Nat)(r:List UInt8)(hf:(full=7/\(high=128\/high=64))\/(full=31/\high=0))(hn:n<=100):zbr full (zbj high full n++r)=some (n,r):=by
 unfold zbj;split
 ·have e:(UInt8.ofNat (high+n)).toNat=high+n:=by rw[UInt8.toNat_ofNat'];omega
  have e2:(high+n)%(full+1)=n:=by rcases hf with ⟨rfl,rfl | rfl⟩ | ⟨rfl,rfl⟩<;>omega
  simp only[List.cons_append,List.nil_append,zbr,e,e2];rw[if_pos (by assumption)]
 ·have e:(UInt8.ofNat (high+full)).toNat=high+full:=by rw[UInt8.toNat_ofNat'];omega
  have e2:(high+full)%(full+1)=full:=by rcases hf with ⟨rfl,rfl | rfl⟩ | ⟨rfl,rfl⟩<;>omega
  have e3:(UInt8.ofNat (n-full)).toNat=n-full:=by rw[UInt8.toNat_ofNat'];omega
  simp only[List.cons_append,List.nil_append,zbr,e,e2];rw[if_neg (by omega)];simp only[zcd,e3];have e4:(n-full)%128=n-full:=Nat.mod_eq_of_lt (by omega);rw[if_neg (by omega),e4,if_neg (by simp;omega)];simp;omega
theorem zor(high full n:Nat)(r:List UInt8)(h:high+full<256):∃ c t,zbj high full n++r=c::t/\(c.toNat=high+n/\n<full\/c.toNat=high+full/\full<=n):=by
 unfold zbj;split
 ·exact⟨_,_,rfl,.inl ⟨by rw[UInt8.toNat_ofNat'];omega,by assumption⟩⟩
 ·exact⟨_,_,rfl,.inr ⟨by rw[UInt8.toNat_ofNat'];omega,by omega⟩⟩
theorem zsa(v r:List UInt8)(hv:v.length<=60):zeb (zcy v++r)=some (v,r):=by have h:=zyi 0 31 v.length (v++r) (.inr ⟨rfl,rfl⟩) (by omega);obtain⟨c,t,he,hc⟩:=zor 0 31 v.length (v++r) (by omega);unfold zcy;rw[List.append_assoc];rw[he] at h ⊢;simp only[zeb,h];rw[if_neg (by omega),if_neg (by simp)];simp
theorem zhx(p:List UInt8×List UInt8)(h:zbs p=true):1<=p.1.length/\p.1.length<=20/\p.2.length<=60:=by simp[zbs,zfo,zft] at h;omega
theorem zyj(high n:Nat)(r:List UInt8)(hh:high=128\/high=64)(h1:1<=n)(h2:n<=16):zfx (zbj high 7 n++r)=some (tbl.getD (n-1) ([],[]),r):=by unfold zfx;rw[zyi high 7 n r (.inl ⟨rfl,hh⟩) (by omega)];simp only;rw[if_neg (by omega)]
theorem zzbeg(p:List UInt8×List UInt8)(r:List UInt8)(h:zbs p=true):zcz (zdn p++r)=some (p,r):=by
 obtain⟨l1,l2,l3⟩:=zhx p h;unfold zdn;split
 ·rename_i hw
  have hle:zdk p<=16:=zkj _ tbl;have hhit:=zle _ tbl hw;have he:=zyj 128 (zdk p) r (.inl rfl) hw hle;obtain⟨c,t,hc,hv⟩:=zor 128 7 (zdk p) r (by omega);rw[hc] at he ⊢;simp only[zjg,Bool.and_eq_true,bne_iff_ne,ne_eq,beq_iff_eq] at hhit;obtain⟨hh1,hh2⟩:=hhit;change tbl.getD (zdk p-1) ([],[])=p at hh2;change ¬ (tbl.getD (zdk p-1) ([],[])).2=[] at hh1;simp only[zcz];rw[if_pos (by omega)];unfold zrw;rw[he];rw[hh2] at hh1 ⊢;simp only;rw[if_neg hh1]
 ·split
  ·rename_i hw
   have hle:zcb p.1<=16:=zkj _ tbl;have hhit:=zle _ tbl hw;have he:=zyj 64 (zcb p.1) (zcy p.2++r) (.inr rfl) hw hle;obtain⟨c,t,hc,hv⟩:=zor 64 7 (zcb p.1) (zcy p.2++r) (by omega);simp only[zhw,beq_iff_eq] at hhit;change (tbl.getD (zcb p.1-1) ([],[])).1=p.1 at hhit;rw[List.append_assoc];rw[hc] at he ⊢;simp only[zcz];rw[if_neg (by omega),if_pos (by omega)];unfold zrx;rw[he];simp only[zsa p.2 r l3,hhit]
  ·simp only[List.cons_append,List.append_assoc,zcz];rw[if_neg (by decide),if_neg (by decide),if_pos (by decide)];unfold zry;rw[zsa p.1 _ (by omega)];simp only[zsa p.2 r l3]
theorem zyk(k:Nat)(m:List (List UInt8×List UInt8))(hk:m.length<=k)(h:∀ p∈m,zbs p=true):zfb k (zah m)=some m:=by
 induction m generalizing k with
 | nil=>cases k<;>rfl
 | cons p r ih =>
  cases k with
  | zero=>simp at hk
  | succ k =>
   have hp:=h p (by simp);have hr:=zzbeg p (zah r) hp;have hpos:=zna p
   show zfb (k+1) (zdn p++zah r)=_
   generalize hx:zdn p++zah r=x at hr ⊢;cases x with
   | nil=>have:=congrArg List.length hx;rw[List.length_append,List.length_nil] at this;omega
   | cons c t =>
    simp only[zfb,zbt,hr,hp,if_true];rw[ih k (by simpa using hk) (λq hq=>h q (by simp[hq]))]
theorem zzbkw(p:List UInt8×List UInt8)(h:zbs p=true):(zdn p).length<=84:=by
 obtain⟨l1,l2,l3⟩:=zhx p h;have hb:=zep 128 7 (zdk p);have hb':=zep 64 7 (zcb p.1);have t1:=zfh p.1;have t2:=zfh p.2;unfold zdn;split
 ·omega
 ·split
  ·rw[List.length_append,t2];split<;>omega
  ·rw[List.length_cons,List.length_append,t1,t2];split<;>split<;>omega
theorem zlf(m:List (List UInt8×List UInt8))(h:∀ p∈m,zbs p=true):(zah m).length<=84*m.length/\m.length<=(zah m).length:=by
 induction m with
 | nil=>simp[zah]
 | cons p r ih =>
  have h1:=zzbkw p (h p (by simp));have h2:=zna p;have h3:=ih (λq hq=>h q (by simp[hq]))
  show (zdn p++zah r).length<=_/\_<=(zdn p++zah r).length
  rw[List.length_append,List.length_cons];omega
theorem zxq(a b:List (List UInt8×List UInt8)):zah (a++b)=zah a++zah b:=by
 induction a with
 | nil=>rfl
 | cons p r ih=>show zdn p++zah (r++b)=(zdn p++zah r)++zah b;rw[ih,List.append_assoc]
open Go.RowKit
set_option maxRecDepth 100000
set_option maxHeartbeats 400000 in
theorem znb(w:World):Calls Tryz.prog 194 #[.int .i64 3] w λe w'=>e = .returned (.int .i64 7)/\w'=w:=by
 go_enter Tryz.func194,Tryz.ntmps194
 go_wp2
 go_ret
 exact⟨rfl,rfl⟩
set_option maxHeartbeats 400000 in
theorem zju(w:World):Calls Tryz.prog 194 #[.int .i64 5] w λe w'=>e = .returned (.int .i64 31)/\w'=w:=by
 go_enter Tryz.func194,Tryz.ntmps194
 go_wp2
 go_ret
 exact⟨rfl,rfl⟩
theorem hide{p:Prop}(h:p):Hid p:=h
theorem zzbge{p:Prop}(h:Hid p):p:=h.out
theorem zcj{a b:Bool}(h:a=b):Ending.returned (.bool a) = .returned (.bool b):=by rw[h]
theorem zdr{k:IntKind}{a b:Int}(h:a=b):Ending.returned (.int k a) = .returned (.int k b):=by rw[h]
theorem zzbjd(c:UInt8):zgl c=decide ((97<=c.toNat/\c.toNat<=122)\/(48<=c.toNat/\c.toNat<=57)\/c.toNat=45):=by rw[Bool.eq_iff_iff];simp[zgl,UInt8.le_iff_toNat_le,<-UInt8.toNat_inj];omega
theorem zzbcx(c:UInt8):zru c=decide (32<=c.toNat/\c.toNat<=126):=by rw[Bool.eq_iff_iff];simp[zru,UInt8.le_iff_toNat_le]
set_option maxHeartbeats 400000 in
theorem zgm(c:UInt8)(w:World):Calls Tryz.prog 193 #[.int .u8 (c.toNat:Int)] w λe w'=>e = .returned (.bool (zgl c))/\w'=w:=by
 have hc:c.toNat<256:=c.toNat_lt;generalize hb:zgl c=b;rw[zzbjd] at hb;have HB:=hide hb;clear hb;by_cases h1:97<=c.toNat
 ·by_cases h2:c.toNat<=122
  all_goals
   go_enter Tryz.func193,Tryz.ntmps193
   go_wp2
   all_goals
    go_ret
    exact⟨zcj (by rw[<-zzbge HB,Bool.eq_iff_iff];simp;omega),rfl⟩
 ·by_cases h2:48<=c.toNat
  all_goals
   go_enter Tryz.func193,Tryz.ntmps193
   go_wp2
   all_goals
    go_ret
    exact⟨zcj (by rw[<-zzbge HB,Bool.eq_iff_iff];simp;omega),rfl⟩
theorem zos(s:ByteArray)(k:Nat)(h:k<s.size):s.data.toList.getD k 0=s[k]:=by rw[List.getD_eq_getElem?_getD,List.getElem?_eq_getElem (by simpa using h)];rfl
theorem zoh(q:UInt8->Bool)(l:List UInt8)(f k:Nat)(hf:f<=k)(hk:k<l.length)(h:q (l.getD k 0)=false):(l.drop f).all q=false:=by
 rw[List.all_eq_false];refine⟨l[k],?_,?_⟩
 ·rw[List.mem_drop_iff_getElem];exact⟨k-f,by omega,by congr 1;omega⟩
 ·rw[List.getD_eq_getElem?_getD,List.getElem?_eq_getElem hk] at h;simpa using h
theorem zot(q:UInt8->Bool)(l:List UInt8)(f:Nat)(h:∀ j,f<=j->j<l.length->q (l.getD j 0)=true):(l.drop f).all q=true:=by
 rw[List.all_eq_true];intro x hx;rw[List.mem_drop_iff_getElem] at hx;obtain⟨i,hi,rfl⟩:=hx
 have:=h (f+i) (by omega) (by omega)
 rw[List.getD_eq_getElem?_getD,List.getElem?_eq_getElem (by omega)] at this;simpa using this
theorem zou(s:ByteArray)(k:Nat)(h:k<s.size)(hb:Hid (s.data.toList.getD k 0=s[k]))(hv:(s[k].toNat:Int)<32\/126<(s[k].toNat:Int)):zft s.data.toList=false:=by
 have:=zoh zru s.data.toList 0 k (Nat.zero_le _) (by simpa using h) (by rw[hb.out,zzbcx];simp;omega)
 unfold zft;rw[List.drop_zero] at this;rw[this,Bool.and_false]
theorem zzbbh(s:ByteArray)(h60:s.size<=60)(k:Nat)(hk:¬ k<s.size)(h:Hid (∀ j,0<=j->j<k->zru (s.data.toList.getD j 0)=true)):zft s.data.toList=true:=by
 have hl:s.data.toList.length=s.size:=by simp
 have:=zot zru s.data.toList 0 (λj h0 hj=>h.out j h0 (by omega))
 unfold zft;rw[List.drop_zero] at this;rw[this,Bool.and_true];simpa using h60
set_option maxHeartbeats 800000 in
theorem zqu(s:ByteArray)(w:World)(hs:s.size<=maxLen):Calls Tryz.prog 166 #[.string s] w λe w'=>e = .returned (.bool (zft s.data.toList))/\w'=w:=by
 unfold maxLen at hs;by_cases h60:s.size<=60
 ·go_enter Tryz.func166,Tryz.ntmps166
  go_wp2
  go_loop [3] (λi => ∃ k:Nat,k<=s.size/\i = .int .i64 k/\Hid (∀ j,0<=j->j<k->zru (s.data.toList.getD j 0)=true)) (λi=>s.size-(intOf i).toNat)
  case atStart=>exact⟨0,Nat.zero_le _,rfl,λj _ h=>by omega⟩
  case round =>
   obtain⟨k,hk,rfl,HA⟩:=hrel;by_cases hlt:k<s.size
   ·have HB:Hid (s.data.toList.getD k 0=s[k]):=zos s k hlt;have hv:(s[k]).toNat<256:=(s[k]).toNat_lt;by_cases h1:(s[k].toNat:Int)<32
    ·go_wp2
     go_ret
     exact⟨zcj (by rw[zou s k hlt HB (.inl h1)]),rfl⟩
    ·by_cases h2:126<(s[k].toNat:Int)
     ·go_wp2
      go_ret
      exact⟨zcj (by rw[zou s k hlt HB (.inr h2)]),rfl⟩
     ·go_wp2
      go_round
      case rel =>
       refine⟨k+1,by omega,by go_num,λj _ hj => ?_⟩;by_cases e:j=k
       ·subst e;rw[HB.out,zzbcx];simp;omega
       ·exact HA.out j (Nat.zero_le _) (by omega)
      case measure=>simp[intOf];omega
   ·go_wp2
    go_ret
    exact⟨zcj (by rw[zzbbh s h60 k hlt HA]),rfl⟩
 ·go_enter Tryz.func166,Tryz.ntmps166
  go_wp2
  go_ret
  exact⟨zcj (by simp[zft];omega),rfl⟩
theorem zqv(l:List UInt8)(f k:Nat)(hf:(if l.head? = some 58/\1<l.length then 1 else 0)=f)(hfk:f<=k)(h:k<l.length)(hv:zgl (l.getD k 0)=false):zfo l=false:=by
 have:=zoh zgl l f k hfk h hv
 unfold zfo;rw[hf,this,Bool.and_false]
theorem ztb(l:List UInt8)(f k:Nat)(h1:1<=l.length)(h20:l.length<=20)(hf:(if l.head? = some 58/\1<l.length then 1 else 0)=f)(hk:¬ k<l.length)(h:∀ j,f<=j->j<k->zgl (l.getD j 0)=true):zfo l=true:=by
 have:=zot zgl l f (λj h0 hj=>h j h0 (by omega))
 unfold zfo;rw[hf,this];simp[h1,h20]
theorem zzbkx(s:ByteArray)(h:0<s.size):s.data.toList.head? = some s[0]:=by rw[List.head?_eq_getElem?,List.getElem?_eq_getElem (by simpa using h)];rfl
set_option maxHeartbeats 1600000 in
theorem ztc(s:ByteArray)(w:World)(hs:s.size<=maxLen):Calls Tryz.prog 165 #[.string s] w λe w'=>e = .returned (.bool (zfo s.data.toList))/\w'=w:=by
 unfold maxLen at hs;have hl:s.data.toList.length=s.size:=by simp
 have HL:=hide hl;clear hl;by_cases h1:1<=s.size
 ·by_cases h20:s.size<=20
  ·have hp:0<s.size:=h1;have Hh:Hid (s.data.toList.head? = some s[0]):=zzbkx s hp;obtain⟨f,hfle,Hf,hst⟩:∃ f:Nat,f<=s.size/\Hid ((if s.data.toList.head? = some 58/\1<s.data.toList.length then 1 else 0)=f)/\((f=0/\(((s[0].toNat:Int) == 58)=false \/ ¬ (1:Int)<s.size))\/(f=1/\((s[0].toNat:Int) == 58)=true/\(1:Int)<s.size)):=by
    by_cases hc:s[0].toNat=58
    ·by_cases hq:1<s.size
     ·exact⟨1,h1,by show (if _ then 1 else 0)=1;rw[if_pos ⟨by rw[Hh.out];exact congrArg some (UInt8.toNat_inj.1 hc),by rw[HL.out];exact hq⟩],.inr ⟨rfl,by simp[hc],by omega⟩⟩
     ·exact⟨0,Nat.zero_le _,by show (if _ then 1 else 0)=0;rw[if_neg (λh=>hq (by have:=h.2;rw[HL.out] at this;exact this))],.inl ⟨rfl,.inr (by omega)⟩⟩
    ·exact⟨0,Nat.zero_le _,by show (if _ then 1 else 0)=0;rw[if_neg (λh=>hc (by have:=h.1;rw[Hh.out] at this;injection this with this;rw[this];rfl))],.inl ⟨rfl,.inl (by simp;omega)⟩⟩
   clear Hh;rcases hst with ⟨rfl,hst⟩ | ⟨rfl,hst,hst2⟩
   ·rcases hst with hst|hst
    all_goals
     go_enter Tryz.func165,Tryz.ntmps165
     go_wp2
     all_goals
      go_loop [4] (λi => ∃ k:Nat,0<=k/\k<=s.size/\i = .int .i64 k/\Hid (∀ j,0<=j->j<k->zgl (s.data.toList.getD j 0)=true)) (λi=>s.size-(intOf i).toNat)
      case atStart=>exact⟨0,Nat.le_refl _,by omega,rfl,λj h0 h=>by omega⟩
      case round =>
       obtain⟨k,hfk,hk,rfl,HA⟩:=hrel;by_cases hlt:k<s.size
       ·have HB:Hid (s.data.toList.getD k 0=s[k]):=zos s k hlt;have hv:(s[k]).toNat<256:=(s[k]).toNat_lt;cases hn:zgl s[k]
        ·have HN:=hide hn;clear hn
         go_wp2_with (go_at_call 193;refine(zgm _ _).mono ?_;rintro e w' ⟨rfl,rfl⟩;rw[HN.out])
         go_ret
         exact⟨zcj (by rw[zqv s.data.toList 0 k Hf.out hfk (by rw[HL.out];exact hlt) (by rw[HB.out,HN.out])]),rfl⟩
        ·have HN:=hide hn;clear hn
         go_wp2_with (go_at_call 193;refine(zgm _ _).mono ?_;rintro e w' ⟨rfl,rfl⟩;rw[HN.out])
         go_round
         case rel =>
          refine⟨k+1,by omega,by omega,by go_num,λj h0 hj => ?_⟩;by_cases e:j=k
          ·subst e;rw[HB.out,HN.out]
          ·exact HA.out j h0 (by omega)
         case measure=>simp[intOf];omega
       ·go_wp2
        go_ret
        exact⟨zcj (by rw[ztb s.data.toList 0 k (by rw[HL.out];exact h1) (by rw[HL.out];exact h20) Hf.out (by rw[HL.out];exact hlt) HA.out]),rfl⟩
   ·skip
    go_enter Tryz.func165,Tryz.ntmps165
    go_wp2
    all_goals
     go_loop [4] (λi => ∃ k:Nat,1<=k/\k<=s.size/\i = .int .i64 k/\Hid (∀ j,1<=j->j<k->zgl (s.data.toList.getD j 0)=true)) (λi=>s.size-(intOf i).toNat)
     case atStart=>exact⟨1,Nat.le_refl _,by omega,rfl,λj h0 h=>by omega⟩
     case round =>
      obtain⟨k,hfk,hk,rfl,HA⟩:=hrel;by_cases hlt:k<s.size
      ·have HB:Hid (s.data.toList.getD k 0=s[k]):=zos s k hlt;have hv:(s[k]).toNat<256:=(s[k]).toNat_lt;cases hn:zgl s[k]
       ·have HN:=hide hn;clear hn
        go_wp2_with (go_at_call 193;refine(zgm _ _).mono ?_;rintro e w' ⟨rfl,rfl⟩;rw[HN.out])
        go_ret
        exact⟨zcj (by rw[zqv s.data.toList 1 k Hf.out hfk (by rw[HL.out];exact hlt) (by rw[HB.out,HN.out])]),rfl⟩
       ·have HN:=hide hn;clear hn
        go_wp2_with (go_at_call 193;refine(zgm _ _).mono ?_;rintro e w' ⟨rfl,rfl⟩;rw[HN.out])
        go_round
        case rel =>
         refine⟨k+1,by omega,by omega,by go_num,λj h0 hj => ?_⟩;by_cases e:j=k
         ·subst e;rw[HB.out,HN.out]
         ·exact HA.out j h0 (by omega)
        case measure=>simp[intOf];omega
      ·go_wp2
       go_ret
       exact⟨zcj (by rw[ztb s.data.toList 1 k (by rw[HL.out];exact h1) (by rw[HL.out];exact h20) Hf.out (by rw[HL.out];exact hlt) HA.out]),rfl⟩
  ·go_enter Tryz.func165,Tryz.ntmps165
   go_wp2
   go_ret
   exact⟨zcj (by simp[zfo];omega),rfl⟩
 ·go_enter Tryz.func165,Tryz.ntmps165
  go_wp2
  go_ret
  exact⟨zcj (by simp[zfo];omega),rfl⟩
theorem zef{w:World}{a:Addr}{v:Value}(h:w.cell? a=some v):a.block<w.heap.size:=by
 by_cases hlt:a.block<w.heap.size
 ·exact hlt
 ·have:w.heap[a.block]? = none:=by rw[Array.getElem?_eq_none_iff];omega
  simp[World.cell?,this] at h
abbrev Ext (w w':World):Prop:=Below w.heap.size w w'
theorem Ext.refl(w:World):Ext w w:=Below.refl _ _
theorem Ext.trans{a b c:World}(h:Ext a b)(k:Ext b c):Ext a c:=Below.trans h (Below.mono k h.size)
theorem Ext.cell{w w':World}(h:Ext w w'){a:Addr}{v:Value}(hc:w.cell? a=some v):w'.cell? a=some v:=by rw[Below.cell h (zef hc),hc]
theorem Ext.alloc{a w:World}(h:Ext a w)(o:Obj):Ext a (w.alloc o):=Below.alloc h h.size o
theorem Ext.drew{a w:World}(h:Ext a w):Ext a w.drew:=Below.drew h
def zae(w:World)(v:Value)(l:List UInt8):Prop :=
 ∃ a cap,v = .slice a l.length cap/\l.length<=cap/\cap<=maxLen /\
  (l=[] \/ ∃ b o,a=some ⟨b,o,none⟩ /\ ∀ i,i<l.length->w.cell? ⟨b,o+i,none⟩=some (.int .u8 ((l.getD i 0).toNat:Int)))
def zbq(w:World)(v:Value)(l:List (List UInt8×List UInt8)):Prop :=
 ∃ a cap,v = .slice a l.length cap/\l.length<=cap/\cap<=maxLen /\
  (l=[] \/ ∃ b o,a=some ⟨b,o,none⟩ /\ ∀ i,i<l.length->w.cell? ⟨b,o+i*2,none⟩=some (.string ⟨(l.getD i ([],[])).1.toArray⟩)/\w.cell? ⟨b,o+i*2+1,none⟩=some (.string ⟨(l.getD i ([],[])).2.toArray⟩))
theorem zae.ext{w w':World}{v:Value}{l:List UInt8}(h:zae w v l)(e:Ext w w'):zae w' v l:=by
 obtain⟨a,cap,rfl,h1,h2,h3⟩:=h;refine⟨a,cap,rfl,h1,h2,?_⟩;rcases h3 with h3 | ⟨b,o,rfl,hc⟩
 ·exact .inl h3
 ·exact .inr ⟨b,o,rfl,λi hi=>e.cell (hc i hi)⟩
theorem zbq.ext{w w':World}{v:Value}{l:List (List UInt8×List UInt8)}(h:zbq w v l)(e:Ext w w'):zbq w' v l:=by
 obtain⟨a,cap,rfl,h1,h2,h3⟩:=h;refine⟨a,cap,rfl,h1,h2,?_⟩;rcases h3 with h3 | ⟨b,o,rfl,hc⟩
 ·exact .inl h3
 ·exact .inr ⟨b,o,rfl,λi hi=>⟨e.cell (hc i hi).1,e.cell (hc i hi).2⟩⟩
theorem zae.nil(w:World):zae w (.slice none 0 0) []:=⟨none,0,rfl,by simp,by simp[maxLen],.inl rfl⟩
theorem zbq.nil(w:World):zbq w (.slice none 0 0) []:=⟨none,0,rfl,by simp,by simp[maxLen],.inl rfl⟩
theorem zae.drop{w:World}{a:Option Addr}{n cap:Nat}{l:List UInt8}(h:zae w (.slice a n cap) l)(k:Nat)(hk:k<=l.length):zae w (sliced a k n cap 1) (l.drop k):=by
 obtain⟨a',cap',he,h1,h2,h3⟩:=h;simp only[Value.slice.injEq] at he;obtain⟨rfl,rfl,rfl⟩:=he;refine⟨_,cap-k,by rw[sliced,List.length_drop],by rw[List.length_drop];omega,by omega,?_⟩;rcases h3 with rfl | ⟨b,o,rfl,hc⟩
 ·simp
 ·by_cases hkl:k=l.length
  ·left;rw[hkl,List.drop_length]
  ·right;refine⟨b,o+k,?_,?_⟩
   ·rw[if_neg (by omega)];simp[Addr.add]
   ·intro i hi;rw[List.length_drop] at hi
    have:=hc (k+i) (by omega)
    rw[Nat.add_assoc,this];simp[List.getD_eq_getElem?_getD,List.getElem?_drop]
def zab(l:List UInt8):List Value:=l.map λb=>Value.int .u8 (b.toNat:Int)
def zap:List (List UInt8×List UInt8)->List Value
 | []=>[]
 | p::r=>Value.string ⟨p.1.toArray⟩::Value.string ⟨p.2.toArray⟩::zap r
theorem zbe(a b:List UInt8):zab (a++b)=zab a++zab b:=List.map_append
theorem zoi(a:List UInt8):(zab a).length=a.length:=List.length_map _
theorem zoj(a b:List (List UInt8×List UInt8)):zap (a++b)=zap a++zap b:=by
 induction a with
 | nil=>rfl
 | cons p r ih=>show _::_::zap (r++b)=_;rw[ih];rfl
theorem zov(a:List (List UInt8×List UInt8))(i:Nat)(h:i<a.length):(zap a)[i*2]? = some (.string ⟨(a.getD i ([],[])).1.toArray⟩)/\(zap a)[i*2+1]? = some (.string ⟨(a.getD i ([],[])).2.toArray⟩):=by
 induction a generalizing i with
 | nil=>simp at h
 | cons p r ih =>
  cases i with
  | zero=>exact⟨rfl,rfl⟩
  | succ i =>
   have:=ih i (by simpa using h)
   have e1:(i+1)*2=i*2+1+1:=by omega
   rw[e1];exact this
theorem znc{w:World}{base:Nat}{e:TypeId}{size n:Nat}{v:Value}{xs:List Value}(h:w.ownsRow base e size v n xs) :
  ∃ a cap,v = .slice a n cap/\n<=cap/\cap<=maxLen/\(n=0 \/ ∃ g,a=some ⟨g,0,none⟩/\base<=g /\ ∀ j,j<n*size->w.cell? ⟨g,j,none⟩=xs[j]?):=by
 rcases h.2 with ⟨rfl,rfl⟩|⟨g,cap,cur,rfl,hb,hg,hnc,hcm,hcs,htake⟩
 ·exact⟨none,0,rfl,by simp,by simp[maxLen],.inl rfl⟩
 ·exact⟨_,cap,rfl,hnc,hcm,.inr ⟨g,rfl,hb,λj hj=>World.ownsRow.cellAt (cap:=cap) h j hj⟩⟩
theorem zae.ofOwns{w:World}{base:Nat}{e:TypeId}{v:Value}{l:List UInt8}(h:w.ownsRow base e 1 v l.length (zab l)):zae w v l:=by
 obtain⟨a,cap,rfl,h1,h2,h3⟩:=znc h;refine⟨a,cap,rfl,h1,h2,?_⟩;rcases h3 with h3 | ⟨g,rfl,_,hc⟩
 ·exact .inl (List.eq_nil_of_length_eq_zero h3)
 ·refine .inr ⟨g,0,rfl,λi hi => ?_⟩;rw[Nat.zero_add,hc i (by omega)];simp[zab,List.getD_eq_getElem?_getD,List.getElem?_eq_getElem hi]
theorem zbq.ofOwns{w:World}{base:Nat}{e:TypeId}{v:Value}{l:List (List UInt8×List UInt8)}(h:w.ownsRow base e 2 v l.length (zap l)):zbq w v l:=by
 obtain⟨a,cap,rfl,h1,h2,h3⟩:=znc h;refine⟨a,cap,rfl,h1,h2,?_⟩;rcases h3 with h3 | ⟨g,rfl,_,hc⟩
 ·exact .inl (List.eq_nil_of_length_eq_zero h3)
 ·refine .inr ⟨g,0,rfl,λi hi => ?_⟩
  have:=zov l i hi
  rw[Nat.zero_add,hc _ (by omega),hc _ (by omega)];exact this
structure zau (w:World) (v:Value) (w':World) (v':Value):Prop where
 grown:w.grownBy w' v.ownBlock
 place:v'.ownBlock=v.ownBlock \/ ∃ g,v'.ownBlock=some g/\w.heap.size<=g
theorem zau.refl(w:World)(v:Value):zau w v w v:=⟨World.grownBy.refl _ _,.inl rfl⟩
theorem zau.trans{a b c:World}{u v x:Value}(h:zau a u b v)(k:zau b v c x):zau a u c x:=by
 refine⟨⟨k.grown.os.trans h.grown.os,k.grown.tape.trans h.grown.tape,k.grown.output.trans h.grown.output,Nat.le_trans h.grown.size k.grown.size,λi hi hne => ?_⟩,?_⟩
 ·rw[k.grown.block i (Nat.lt_of_lt_of_le hi h.grown.size) ?_,h.grown.block i hi hne];rcases h.place with e | ⟨g,e,hg⟩
  ·rw[e];exact hne
  ·rw[e];intro h';injection h' with h';omega
 ·rcases k.place with e|⟨g,e,hg⟩
  ·rw[e];exact h.place
  ·exact .inr ⟨g,e,Nat.le_trans h.grown.size hg⟩
theorem zau.alloc(w:World)(v:Value)(o:Obj):zau w v (w.alloc o) v:=⟨World.grownBy_alloc _ _ _,.inl rfl⟩
theorem zau.ext(w w':World)(v:Value)(h:Ext w w'):zau w v w' v:=⟨⟨h.os,h.tape,h.output,h.size,λk hk _=>h.block k hk⟩,.inl rfl⟩
theorem zau.below{w w':World}{v v':Value}(h:zau w v w' v')(B:Nat)(hB:B<=w.heap.size)(hv:∀ k,v.ownBlock=some k->B<=k):Below B w w' :=
 (Below.refl B w).grown h.grown hB hv
theorem zau.cell{w w':World}{v v':Value}(h:zau w v w' v'){a:Addr}{x:Value}(hc:w.cell? a=some x)(hne:v.ownBlock≠some a.block):w'.cell? a=some x :=
 h.grown.cell hc (Ne.symm hne)
section
variable {P:Program} (w:World)
theorem zmh(base:Nat)(t tx ty e:TypeId)(i:TypeInfo)(z:Value)(size bytes:Nat)(ht:P.underlying t=some (.slice e))(hi:P.info? e=some i)(hz:i.zero=some z)
  (hsize:i.size=size) (hby:i.bytes=bytes) (hzs:z.cells.size=size) (hsz:0<size)
  (v:Value) (n:Nat) (xs:List Value) (hown:w.ownsRow base e size v n xs)
  (x:Value) (m:Nat) (news:List Value) (hs:Src P size tx x m news w)
  (h63:n+m<=maxLen) (hbytes:(n+m)*bytes<=140737488355328) (hbase:base<=w.heap.size) :
  ∃ v' w',(Builtin.append_ #[t,tx] ty #[v,x]).run P w = .ok v' w'/\w'.ownsRow base e size v' (n+m) (xs++news)/\zau w v w' v':=by
 subst hsize;subst hby
 have hsmall:n+m<=9223372036854775807:=by simp only[maxLen] at h63;omega
 have hl:=hs.newsLen;have hlen:(xs++news).length=(n+m)*i.size:=by rw[List.length_append,hown.1,hl,Nat.add_mul]
 have grown:∀ (old:Nat),old<n+m -> ∀ (v:Value),
   (w.drew.alloc (.cells ((xs++news).toArray++Builtin.zeroCells z.cells (grownCap w (n+m) old e-(n+m))) e)).ownsRow base e i.size
    (.slice (some ⟨w.heap.size,0,none⟩) (n+m) (grownCap w (n+m) old e)) (n+m) (xs++news) /\
   zau w v (w.drew.alloc (.cells ((xs++news).toArray++Builtin.zeroCells z.cells (grownCap w (n+m) old e-(n+m))) e)) (.slice (some ⟨w.heap.size,0,none⟩) (n+m) (grownCap w (n+m) old e)):=by
  intro old ho v;have hge:=grownCap_ge w (n+m) old e;have hcm:grownCap w (n+m) old e<=maxLen:=grownCap_le_maxLen w (n+m) old e h63;refine⟨⟨hlen,.inr ⟨w.heap.size,_,_,rfl,hbase,heap_alloc_new w.drew _,hge,hcm,?_,?_⟩⟩,⟨⟨rfl,rfl,rfl,by simp,λk hk _=>heap_alloc_old w.drew _ hk⟩,.inr ⟨_,rfl,Nat.le_refl _⟩⟩⟩
  ·simp only[Array.size_append,List.size_toArray,size_zeroCells,hzs,hlen,<-Nat.add_mul];congr 1;omega
  ·simp only[Array.toList_append];rw[<-hlen];exact List.take_left
 rcases hown.2 with ⟨rfl,rfl⟩|⟨g,cap,cur,rfl,hbg,hg,hnc,hcm,hcs,htake⟩
 ·have hx:xs=[]:=List.eq_nil_of_length_eq_zero (by simpa using hown.1);subst hx;by_cases hm:m=0
  ·subst hm;have hn:news=[]:=List.eq_nil_of_length_eq_zero (by simpa using hl);subst hn;refine⟨.slice none 0 0,w,?_,World.ownsRow_nil w base e i.size,zau.refl _ _⟩;rcases hs.kind with ⟨e',hk⟩ | hk<;>simp[Builtin.append_,run_underlying ht,run_underlying hk,sizeOf,typeInfo,hi,hs.len,hs.cells]
  ·have hr:=run_append_grow_src (P:=P) w t tx ty e i z ht hi hz none 0 0 [] (by simp[Builtin.firstCells]) x m news hs (by omega) (by omega) (growslice_fits (by omega) (by simpa using hbytes));have hgr:=grown 0 (by omega) (.slice none 0 0);simp only[Nat.zero_add,List.nil_append] at hgr hr ⊢;exact⟨_,_,hr,hgr.1,hgr.2⟩
 ·by_cases hroom:n+m<=cap
  ·have hfit:n*i.size+0+news.length<=cur.size:=by rw[hl,hcs,Nat.add_zero,<-Nat.add_mul];exact Nat.mul_le_mul_right _ hroom
   have hst:=run_storeCells_at P g (n*i.size) e news 0 cur w hg hfit hs.one;simp only[Nat.add_zero] at hst;have hr:(Builtin.append_ #[t,tx] ty #[.slice (some ⟨g,0,none⟩) n cap,x]).run P w =
     .ok (.slice (some ⟨g,0,none⟩) (n+m) cap) (w.setRow g (cur.toList.take (n*i.size)++news++cur.toList.drop (n*i.size+news.length)).toArray):=by
    rcases hs.kind with ⟨e',hk⟩ | hk<;>simp[Builtin.append_,run_underlying ht,run_underlying hk,sizeOf,typeInfo,hi,hs.len,hroom,hs.cells,Addr.add_lit,hst]
   refine⟨_,_,hr,⟨hlen,.inr ⟨g,cap,_,rfl,hbg,setRow_heap w g cur _ e _ hg,hroom,hcm,?_,?_⟩⟩,⟨⟨rfl,rfl,rfl,by simp,λk _ hk=>setRow_other w g k _ (λe=>hk (by simp[Value.ownBlock,e]))⟩,.inl rfl⟩⟩
   ·simp only[List.size_toArray,List.length_append,List.length_take,List.length_drop,Array.length_toList];omega
   ·rw[htake,<-hlen];exact List.take_left
  ·have holds:∀ j u,xs[j]? = some u->w.drew.cell? ((⟨g,0,none⟩:Addr).add j)=some u:=λj u h=>by
    have:=hown.cells (g:=g) rfl j u h
    simpa using this
   have hr:=run_append_grow_src (P:=P) w t tx ty e i z ht hi hz (some ⟨g,0,none⟩) n cap xs (run_firstCells_some w.drew i.size n ⟨g,0,none⟩ n cap xs hown.1 holds) x m news hs (by omega) (by omega) (growslice_fits (by omega) hbytes);have hgr:=grown cap (by omega) (.slice (some ⟨g,0,none⟩) n cap);exact⟨_,_,hr,hgr.1,hgr.2⟩
theorem zbw{ops:Array Oper}{rest:List Oper}{o:Oper}{a:Act}{Q:Exit->Act->World->Prop}(hgd:o.guard=none)(s x:Operand)(t tx:TypeId)
  (ho:o.op = .call { callee:=.builtin .append,args:=#[s,x],argTypes:=#[t,tx] })
  (base:Nat) (e:TypeId) (i:TypeInfo) (z:Value) (size bytes:Nat) (ht:P.underlying t=some (.slice e)) (hi:P.info? e=some i) (hz:i.zero=some z)
  (hsize:i.size=size) (hby:i.bytes=bytes) (hzs:z.cells.size=size) (hsz:0<size)
  (v:Value) (n:Nat) (xs:List Value) (hs:a.eval s=v) (hown:w.ownsRow base e size v n xs)
  (y:Value) (m:Nat) (news:List Value) (hx:a.eval x=y) (hsrc:Src P size tx y m news w)
  (h63:n+m<=maxLen) (hbytes:(n+m)*bytes<=140737488355328) (hbase:base<=w.heap.size)
  (h:∀ v' w',w'.ownsRow base e size v' (n+m) (xs++news)->zau w v w' v'->wpList P ops Q rest (a.put o.dst v') w'):wpList P ops Q (o::rest) a w:=by
 refine wpList_plain hgd λK hK => ?_;obtain⟨v',w',hr,h2,h3⟩:=zmh (P:=P) w base t tx o.type e i z size bytes ht hi hz hsize hby hzs hsz v n xs hown y m news hsrc h63 hbytes hbase;unfold Oper.wp execOp;simp only[ho,resolve,invoke,builtin,Sem.run_bind,Sem.run_pure,Result.andThen_ok,List.map_toArray,List.map_cons,List.map_nil,hs,hx,hr];exact hK _ _ (h v' w' h2 h3)
theorem zhn{t e':TypeId}(e:TypeId)(ht:P.underlying t=some (.slice e'))(u:Value)(hu:u.oneCell'=true):Src P 1 t (.slice (some ⟨w.heap.size,0,none⟩) 1 1) 1 [u] (w.alloc (.cells #[u] e)) :=
 Src.ofSlice (w.alloc (.cells #[u] e)) ht ⟨w.heap.size,0,none⟩ 1 1 [u] rfl (λj x hj=>by
  match j,hj with
  | 0,hj=>simp at hj;subst hj;simp[Addr.add]) (λx hx=>by simp at hx;subst hx;exact hu)
theorem zzbje{t e':TypeId}(e:TypeId)(ht:P.underlying t=some (.slice e'))(x y:ByteArray):Src P 2 t (.slice (some ⟨w.heap.size,0,none⟩) 1 1) 1 [.string x,.string y] (w.alloc (.cells #[.string x,.string y] e)) :=
 Src.ofSlice (w.alloc (.cells #[.string x,.string y] e)) ht ⟨w.heap.size,0,none⟩ 1 1 [.string x,.string y] rfl (λj u hj=>by
  match j,hj with
  | 0,hj=>simp at hj;subst hj;simp[Addr.add]
  | 1,hj=>simp at hj;subst hj;simp[Addr.add]) (λu hu=>by simp at hu;rcases hu with rfl | rfl<;>rfl)
theorem zfi{w:World}{base:Nat}{e:TypeId}{size n m:Nat}{v:Value}{xs ys:List Value}(h:w.ownsRow base e size v n xs)(hn:n=m)(hx:xs=ys):w.ownsRow base e size v m ys:=by subst hn;subst hx;exact h
end
set_option maxHeartbeats 800000 in
theorem zwa(w:World):Calls Tryz.prog 126 #[] w λe w' => ∃ v,e = .returned v/\zbq w' v tbl/\Ext w w':=by
 go_enter Tryz.func126,Tryz.ntmps126
 go_wp2
 go_ret
 refine⟨_,rfl,?_,(Ext.refl _).alloc _⟩;refine zbq.ofOwns (base:=w.heap.size) (e:=122) ⟨rfl,.inr ⟨w.heap.size,16,_,rfl,Nat.le_refl _,heap_alloc_new w _,by decide,by decide,rfl,rfl⟩⟩
theorem zlg(w:World)(a b:Value)(t:TypeId):(w.alloc (.cells #[a,b] t)).cell? ⟨w.heap.size,0,none⟩=some a:=by simp
theorem zlh(w:World)(a b:Value)(t:TypeId):(w.alloc (.cells #[a,b] t)).cell? ⟨w.heap.size,1,none⟩=some b:=by simp
set_option maxHeartbeats 800000 in
theorem zvb(s:ByteArray)(vt:Value)(l:List (List UInt8×List UInt8))(w:World)(hl:l.length<=1000)(ht:zbq w vt l):Calls Tryz.prog 169 #[.string s,vt] w λe w'=>e = .returned (.int .i64 (least (zhw s.data.toList) l:Nat))/\Ext w w':=by
 obtain⟨a,cap,rfl,hc1,hc2,hcell⟩:=ht;have HC:=hide hcell;clear hcell
 go_enter Tryz.func169,Tryz.ntmps169
 go_wp2
 go_loopw [9] (λi wr => ∃ k:Nat,k<=l.length/\i = .int .i64 k/\Ext w wr/\Hid (∀ j,j<k->zhw s.data.toList (l.getD j ([],[]))=false)) (λi _=>l.length-(intOf i).toNat)
 case atStart=>exact⟨0,Nat.zero_le _,rfl,Ext.refl _,λj h=>by omega⟩
 case round =>
  obtain⟨k,hk,rfl,hext,HA⟩:=hrel;by_cases hlt:k<l.length
  ·obtain⟨b,o,rfl,hcc⟩:∃ b o,a=some ⟨b,o,none⟩ /\ ∀ i,i<l.length->w.cell? ⟨b,o+i*2,none⟩=some (.string ⟨(l.getD i ([],[])).1.toArray⟩)/\w.cell? ⟨b,o+i*2+1,none⟩=some (.string ⟨(l.getD i ([],[])).2.toArray⟩):=by
    rcases HC.out with h|h
    ·rw[h] at hlt;simp at hlt
    ·exact h
   have hcA:=hext.cell (hcc k hlt).1;have hcB:=hext.cell (hcc k hlt).2;clear hcc;generalize hp:l.getD k ([],[])=p at hcA hcB;have HP:=hide hp;clear hp;by_cases hq:(p.1 == s.toList)=true
   ·go_wp2
    go_ret
    exact⟨zdr (by rw[zqt (zhw s.data.toList) l k hlt HA.out (by rw[HP.out,zhw,<-ByteArray.toList_eq];exact hq)];omega),hext.alloc _⟩
   ·have hq':(p.1 == s.toList)=false:=by simpa using hq
    clear hq
    go_wp2
    go_roundw
    case rel =>
     refine⟨k+1,by omega,by go_num,hext.alloc _,λj hj => ?_⟩;by_cases e:j=k
     ·subst e;rw[HP.out,zhw,<-ByteArray.toList_eq];exact hq'
     ·exact HA.out j (by omega)
    case measure=>simp[intOf];omega
  ·go_wp2
   go_ret
   exact⟨zdr (by rw[zta (zhw s.data.toList) l (λj hj=>HA.out j (by omega))];rfl),hext⟩
theorem zwb(a b:ByteArray)(p:List UInt8×List UInt8):zjg (a.data.toList,b.data.toList) p=((p.2 != []) && ((p.1 == a.toList) && (p.2 == b.toList))):=by rw[ByteArray.toList_eq,ByteArray.toList_eq];rfl
set_option maxHeartbeats 1600000 in
theorem zzbbi(x y:ByteArray)(vt:Value)(l:List (List UInt8×List UInt8))(w:World)(hl:l.length<=1000)(ht:zbq w vt l):Calls Tryz.prog 167 #[.agg #[.string x,.string y],vt] w λe w'=>e = .returned (.int .i64 (least (zjg (x.data.toList,y.data.toList)) l:Nat))/\Ext w w':=by
 obtain⟨a,cap,rfl,hc1,hc2,hcell⟩:=ht;have HC:=hide hcell;clear hcell;have hx0:=(zlg w (.string x) (.string y) 122);have hx1:=(zlh w (.string x) (.string y) 122);have hE:=(Ext.refl w).alloc (.cells #[.string x,.string y] 122)
 go_enter Tryz.func167,Tryz.ntmps167
 go_wp2
 generalize hW:w.alloc (.cells #[.string x,.string y] 122)=W at hx0 hx1 hE ⊢;clear hW
 go_loopw [9] (λi wr => ∃ k:Nat,k<=l.length/\i = .int .i64 k/\Ext W wr/\Hid (∀ j,j<k->zjg (x.data.toList,y.data.toList) (l.getD j ([],[]))=false)) (λi _=>l.length-(intOf i).toNat)
 case atStart=>exact⟨0,Nat.zero_le _,rfl,Ext.refl _,λj h=>by omega⟩
 case round =>
  obtain⟨k,hk,rfl,hextW,HA⟩:=hrel;have hx0':=hextW.cell hx0;have hx1':=hextW.cell hx1;have hext:=hE.trans hextW;clear hx0 hx1;by_cases hlt:k<l.length
  ·obtain⟨b,o,rfl,hcc⟩:∃ b o,a=some ⟨b,o,none⟩ /\ ∀ i,i<l.length->w.cell? ⟨b,o+i*2,none⟩=some (.string ⟨(l.getD i ([],[])).1.toArray⟩)/\w.cell? ⟨b,o+i*2+1,none⟩=some (.string ⟨(l.getD i ([],[])).2.toArray⟩):=by
    rcases HC.out with h|h
    ·rw[h] at hlt;simp at hlt
    ·exact h
   have hcA:=hext.cell (hcc k hlt).1;have hcB:=hext.cell (hcc k hlt).2;clear hcc;generalize hp:l.getD k ([],[])=p at hcA hcB;have HP:=hide hp;clear hp;have hz:w.heap.size<wr.heap.size:=zef hx0'
   go_wp2
   all_goals first
    | (
     go_ret
     exact⟨zdr (by rw[zqt _ l k hlt HA.out (by rw[HP.out,zwb];simp_all)];omega),hext.alloc _⟩)
    | (
     go_roundw
     case rel =>
      refine⟨k+1,by omega,by go_num,hextW.alloc _,λj hj => ?_⟩;by_cases e:j=k
      ·subst e;rw[HP.out,zwb];simp_all
      ·exact HA.out j (by omega)
     case measure=>simp[intOf];omega)
  ·go_wp2
   go_ret
   exact⟨zdr (by rw[zta _ l (λj hj=>HA.out j (by omega))];rfl),hext⟩
theorem Tryz.info5:(Tryz.prog.info? 5).map (λi=>(i.zero,i.size,i.bytes))=some (some (.int .u8 0),1,1):=by kernel_rfl
theorem zzbcy(high n:Nat)(hh:high=128\/high=64)(hn:n<8):bits BinOp.or IntKind.u8 (high:Int) (n:Int)=((high+n:Nat):Int):=by
 rcases hh with rfl | rfl<;>(match n,hn with
  | 0,_=>decide
  | 1,_=>decide
  | 2,_=>decide
  | 3,_=>decide
  | 4,_=>decide
  | 5,_=>decide
  | 6,_=>decide
  | 7,_=>decide)
theorem zin(n:Nat)(h:n<256):Value.int .u8 ((UInt8.ofNat n).toNat:Int) = .int .u8 (n:Int):=by rw[UInt8.toNat_ofNat',Nat.mod_eq_of_lt (by omega)]
theorem zzbcz(high n:Nat)(hh:high=0)(hn:n<32):bits BinOp.or IntKind.u8 (high:Int) (n:Int)=((high+n:Nat):Int):=by
 subst hh
 have:∀ k:Fin 32,bits BinOp.or IntKind.u8 ((0:Nat):Int) ((k.val:Nat):Int)=((0+k.val:Nat):Int):=by decide
 exact this ⟨n,hn⟩
set_option maxHeartbeats 800000 in
theorem zqo(high n:Nat)(v:Value)(l:List UInt8)(base:Nat)(w:World)(hh:high=128\/high=64)(hn:n<7)(hl:l.length<=100000)(hb:base<=w.heap.size)(hown:w.ownsRow base 5 1 v l.length (zab l)) :
  Calls Tryz.prog 168 #[v,.int .u8 (high:Int),.int .i64 3,.int .i64 (n:Int)] w λe w' => ∃ v',e = .returned v'/\w'.ownsRow base 5 1 v' (l++zbj high 7 n).length (zab (l++zbj high 7 n))/\zau w v w' v':=by
 obtain⟨i0,hi,hz0,hz1,hz2⟩:=info_parts Tryz.info5;have ho:=zzbcy high n hh (by omega);have HE:Hid (zab (l++zbj high 7 n)=zab l++[.int .u8 ((high+n:Nat):Int)]/\(l++zbj high 7 n).length=l.length+1):=by unfold zbj;rw[if_pos hn];exact⟨by rw[zbe];congr 1;show [Value.int .u8 _]=_;rw[zin _ (by omega)],by simp⟩
 clear hh;generalize hx:((high+n:Nat):Int)=x at ho HE;clear hx
 go_enter Tryz.func168,Tryz.ntmps168
 go_wp2_with (first
  | (go_at_call 194;refine(znb _).mono ?_;rintro e w' ⟨rfl,rfl⟩)
  | (at_builtin;refine zbw _ rfl _ _ 34 34 rfl base 5 i0 (.int .u8 0) 1 1 Tryz.underlying34 hi hz0 hz1 hz2 rfl (by decide) _ _ _ rfl (hown.alloc _) _ 1 [.int .u8 x] rfl (zhn _ _ Tryz.underlying34 _ rfl) ?_ ?_ ?_ ?_))
 ·unfold maxLen;omega
 ·omega
 ·simp;omega
 ·intro v' w1 hown' hgrew
  go_wp2
  go_ret
  exact⟨v',rfl,zfi hown' HE.out.2.symm HE.out.1.symm,(zau.alloc _ _ _).trans hgrew⟩
set_option maxHeartbeats 1600000 in
theorem zow(high n:Nat)(v:Value)(l:List UInt8)(base:Nat)(w:World)(hh:high=128\/high=64)(hn:7<=n)(hm:n<=100)(hl:l.length<=100000)(hb:base<=w.heap.size)(hown:w.ownsRow base 5 1 v l.length (zab l)) :
  Calls Tryz.prog 168 #[v,.int .u8 (high:Int),.int .i64 3,.int .i64 (n:Int)] w λe w' => ∃ v',e = .returned v'/\w'.ownsRow base 5 1 v' (l++zbj high 7 n).length (zab (l++zbj high 7 n))/\zau w v w' v':=by
 obtain⟨i0,hi,hz0,hz1,hz2⟩:=info_parts Tryz.info5;have ho:bits BinOp.or IntKind.u8 (high:Int) 7=((high+7:Nat):Int):=zzbcy high 7 hh (by omega);have HE:Hid (zab (l++zbj high 7 n)=zab l++[.int .u8 ((high+7:Nat):Int),.int .u8 ((n:Int)-7)]/\(l++zbj high 7 n).length=l.length+1+1):=by
  unfold zbj;rw[if_neg (by omega)];refine⟨?_,by simp⟩;rw[zbe];congr 1
  show [Value.int .u8 _,Value.int .u8 _]=_
  rw[zin _ (by omega),zin _ (by omega),Int.ofNat_sub hn];rfl
 clear hh;generalize hx:((high+7:Nat):Int)=x at ho HE;clear hx
 go_enter Tryz.func168,Tryz.ntmps168
 go_wp2_with (first
  | (go_at_call 194;refine(znb _).mono ?_;rintro e w' ⟨rfl,rfl⟩)
  | (at_builtin;refine zbw _ rfl (.tmp 20) (.tmp 26) 34 34 rfl base 5 i0 (.int .u8 0) 1 1 Tryz.underlying34 hi hz0 hz1 hz2 rfl (by decide) _ _ _ rfl (hown.alloc _) _ 1 [.int .u8 x] rfl (zhn _ _ Tryz.underlying34 _ rfl) ?_ ?_ ?_ ?_))
 ·unfold maxLen;omega
 ·omega
 ·simp;omega
 ·intro v1 w1 hown1 hgrew1;have hz:base<=w1.heap.size:=by have:=hgrew1.grown.size;simp at this;omega
  go_wp2_with (go_at_call 194;refine(znb _).mono ?_;rintro e w' ⟨rfl,rfl⟩)
  refine wp_loop_rounds 1 ?_;rw[rounds_succ]
  go_wp2_with (at_builtin;refine zbw _ rfl (.tmp 43) (.tmp 46) 34 34 rfl base 5 i0 (.int .u8 0) 1 1 Tryz.underlying34 hi hz0 hz1 hz2 rfl (by decide) _ _ _ rfl (hown1.alloc _) _ 1 [.int .u8 ((n:Int)-7)] rfl (zhn _ _ Tryz.underlying34 _ rfl) ?_ ?_ ?_ ?_)
  ·unfold maxLen;omega
  ·omega
  ·simp;omega
  ·intro v2 w2 hown2 hgrew2
   go_wp2
   go_ret
   exact⟨v2,rfl,zfi hown2 HE.out.2.symm HE.out.1.symm,(zau.alloc _ _ _).trans (hgrew1.trans ((zau.alloc _ _ _).trans hgrew2))⟩
theorem zjr(high n:Nat)(v:Value)(l:List UInt8)(base:Nat)(w:World)(hh:high=128\/high=64)(hm:n<=100)(hl:l.length<=100000)(hb:base<=w.heap.size)(hown:w.ownsRow base 5 1 v l.length (zab l)) :
  Calls Tryz.prog 168 #[v,.int .u8 (high:Int),.int .i64 3,.int .i64 (n:Int)] w λe w' => ∃ v',e = .returned v'/\w'.ownsRow base 5 1 v' (l++zbj high 7 n).length (zab (l++zbj high 7 n))/\zau w v w' v':=by
 by_cases hn:n<7
 ·exact zqo high n v l base w hh hn hl hb hown
 ·exact zow high n v l base w hh (by omega) hm hl hb hown
set_option maxHeartbeats 800000 in
theorem zqp(high n:Nat)(v:Value)(l:List UInt8)(base:Nat)(w:World)(hh:high=0)(hn:n<31)(hl:l.length<=100000)(hb:base<=w.heap.size)(hown:w.ownsRow base 5 1 v l.length (zab l)) :
  Calls Tryz.prog 168 #[v,.int .u8 (high:Int),.int .i64 5,.int .i64 (n:Int)] w λe w' => ∃ v',e = .returned v'/\w'.ownsRow base 5 1 v' (l++zbj high 31 n).length (zab (l++zbj high 31 n))/\zau w v w' v':=by
 obtain⟨i0,hi,hz0,hz1,hz2⟩:=info_parts Tryz.info5;have ho:=zzbcz high n hh (by omega);have HE:Hid (zab (l++zbj high 31 n)=zab l++[.int .u8 ((high+n:Nat):Int)]/\(l++zbj high 31 n).length=l.length+1):=by unfold zbj;rw[if_pos hn];exact⟨by rw[zbe];congr 1;show [Value.int .u8 _]=_;rw[zin _ (by omega)],by simp⟩
 clear hh;generalize hx:((high+n:Nat):Int)=x at ho HE;clear hx
 go_enter Tryz.func168,Tryz.ntmps168
 go_wp2_with (first
  | (go_at_call 194;refine(zju _).mono ?_;rintro e w' ⟨rfl,rfl⟩)
  | (at_builtin;refine zbw _ rfl _ _ 34 34 rfl base 5 i0 (.int .u8 0) 1 1 Tryz.underlying34 hi hz0 hz1 hz2 rfl (by decide) _ _ _ rfl (hown.alloc _) _ 1 [.int .u8 x] rfl (zhn _ _ Tryz.underlying34 _ rfl) ?_ ?_ ?_ ?_))
 ·unfold maxLen;omega
 ·omega
 ·simp;omega
 ·intro v' w1 hown' hgrew
  go_wp2
  go_ret
  exact⟨v',rfl,zfi hown' HE.out.2.symm HE.out.1.symm,(zau.alloc _ _ _).trans hgrew⟩
set_option maxHeartbeats 1600000 in
theorem zox(high n:Nat)(v:Value)(l:List UInt8)(base:Nat)(w:World)(hh:high=0)(hn:31<=n)(hm:n<=100)(hl:l.length<=100000)(hb:base<=w.heap.size)(hown:w.ownsRow base 5 1 v l.length (zab l)) :
  Calls Tryz.prog 168 #[v,.int .u8 (high:Int),.int .i64 5,.int .i64 (n:Int)] w λe w' => ∃ v',e = .returned v'/\w'.ownsRow base 5 1 v' (l++zbj high 31 n).length (zab (l++zbj high 31 n))/\zau w v w' v':=by
 obtain⟨i0,hi,hz0,hz1,hz2⟩:=info_parts Tryz.info5;have ho:bits BinOp.or IntKind.u8 (high:Int) 31=((high+31:Nat):Int):=zzbcz high 31 hh (by omega);have HE:Hid (zab (l++zbj high 31 n)=zab l++[.int .u8 ((high+31:Nat):Int),.int .u8 ((n:Int)-31)]/\(l++zbj high 31 n).length=l.length+1+1):=by
  unfold zbj;rw[if_neg (by omega)];refine⟨?_,by simp⟩;rw[zbe];congr 1
  show [Value.int .u8 _,Value.int .u8 _]=_
  rw[zin _ (by omega),zin _ (by omega),Int.ofNat_sub hn];rfl
 clear hh;generalize hx:((high+31:Nat):Int)=x at ho HE;clear hx
 go_enter Tryz.func168,Tryz.ntmps168
 go_wp2_with (first
  | (go_at_call 194;refine(zju _).mono ?_;rintro e w' ⟨rfl,rfl⟩)
  | (at_builtin;refine zbw _ rfl (.tmp 20) (.tmp 26) 34 34 rfl base 5 i0 (.int .u8 0) 1 1 Tryz.underlying34 hi hz0 hz1 hz2 rfl (by decide) _ _ _ rfl (hown.alloc _) _ 1 [.int .u8 x] rfl (zhn _ _ Tryz.underlying34 _ rfl) ?_ ?_ ?_ ?_))
 ·unfold maxLen;omega
 ·omega
 ·simp;omega
 ·intro v1 w1 hown1 hgrew1;have hz:base<=w1.heap.size:=by have:=hgrew1.grown.size;simp at this;omega
  go_wp2_with (go_at_call 194;refine(zju _).mono ?_;rintro e w' ⟨rfl,rfl⟩)
  refine wp_loop_rounds 1 ?_;rw[rounds_succ]
  go_wp2_with (at_builtin;refine zbw _ rfl (.tmp 43) (.tmp 46) 34 34 rfl base 5 i0 (.int .u8 0) 1 1 Tryz.underlying34 hi hz0 hz1 hz2 rfl (by decide) _ _ _ rfl (hown1.alloc _) _ 1 [.int .u8 ((n:Int)-31)] rfl (zhn _ _ Tryz.underlying34 _ rfl) ?_ ?_ ?_ ?_)
  ·unfold maxLen;omega
  ·omega
  ·simp;omega
  ·intro v2 w2 hown2 hgrew2
   go_wp2
   go_ret
   exact⟨v2,rfl,zfi hown2 HE.out.2.symm HE.out.1.symm,(zau.alloc _ _ _).trans (hgrew1.trans ((zau.alloc _ _ _).trans hgrew2))⟩
theorem zqq(high n:Nat)(v:Value)(l:List UInt8)(base:Nat)(w:World)(hh:high=0)(hm:n<=100)(hl:l.length<=100000)(hb:base<=w.heap.size)(hown:w.ownsRow base 5 1 v l.length (zab l)) :
  Calls Tryz.prog 168 #[v,.int .u8 (high:Int),.int .i64 5,.int .i64 (n:Int)] w λe w' => ∃ v',e = .returned v'/\w'.ownsRow base 5 1 v' (l++zbj high 31 n).length (zab (l++zbj high 31 n))/\zau w v w' v':=by
 by_cases hn:n<31
 ·exact zqp high n v l base w hh hn hl hb hown
 ·exact zox high n v l base w hh (by omega) hm hl hb hown
theorem zsb(n:Nat)(v:Value)(l:List UInt8)(base:Nat)(w:World)(hm:n<=100)(hl:l.length<=100000)(hb:base<=w.heap.size)(hown:w.ownsRow base 5 1 v l.length (zab l)) :
  Calls Tryz.prog 168 #[v,.int .u8 128,.int .i64 3,.int .i64 (n:Int)] w λe w' => ∃ v',e = .returned v'/\w'.ownsRow base 5 1 v' (l++zbj 128 7 n).length (zab (l++zbj 128 7 n))/\zau w v w' v' :=
 zjr 128 n v l base w (.inl rfl) hm hl hb hown
theorem ztd(n:Nat)(v:Value)(l:List UInt8)(base:Nat)(w:World)(hm:n<=100)(hl:l.length<=100000)(hb:base<=w.heap.size)(hown:w.ownsRow base 5 1 v l.length (zab l)) :
  Calls Tryz.prog 168 #[v,.int .u8 64,.int .i64 3,.int .i64 (n:Int)] w λe w' => ∃ v',e = .returned v'/\w'.ownsRow base 5 1 v' (l++zbj 64 7 n).length (zab (l++zbj 64 7 n))/\zau w v w' v' :=
 zjr 64 n v l base w (.inr rfl) hm hl hb hown
theorem zvc(n:Nat)(v:Value)(l:List UInt8)(base:Nat)(w:World)(hm:n<=100)(hl:l.length<=100000)(hb:base<=w.heap.size)(hown:w.ownsRow base 5 1 v l.length (zab l)) :
  Calls Tryz.prog 168 #[v,.int .u8 0,.int .i64 5,.int .i64 (n:Int)] w λe w' => ∃ v',e = .returned v'/\w'.ownsRow base 5 1 v' (l++zbj 0 31 n).length (zab (l++zbj 0 31 n))/\zau w v w' v' :=
 zqq 0 n v l base w rfl hm hl hb hown
theorem zzbda(high full n:Nat):(zbj high full n).length<=2:=(zep high full n).2
set_option maxHeartbeats 1600000 in
theorem zio(s:ByteArray)(v:Value)(l:List UInt8)(base:Nat)(w:World)(hs:s.size<=60)(hl:l.length<=90000)(hb:base<=w.heap.size)(hown:w.ownsRow base 5 1 v l.length (zab l)) :
  Calls Tryz.prog 170 #[v,.string s] w λe w' => ∃ v',e = .returned v'/\w'.ownsRow base 5 1 v' (l++zcy s.data.toList).length (zab (l++zcy s.data.toList))/\zau w v w' v':=by
 obtain⟨i0,hi,hz0,hz1,hz2⟩:=info_parts Tryz.info5;have HE:Hid (zab (l++zcy s.data.toList)=zab (l++zbj 0 31 s.size)++byteCells s/\(l++zcy s.data.toList).length=(l++zbj 0 31 s.size).length+s.size):=by
  have hsz:s.data.toList.length=s.size:=by simp
  unfold zcy;rw[hsz,<-List.append_assoc];exact⟨by rw[zbe];rfl,by rw[List.length_append,hsz]⟩
 have hN:(l++zbj 0 31 s.size).length<=90002:=by rw[List.length_append];have:=zzbda 0 31 s.size;omega
 generalize hl1:l++zbj 0 31 s.size=l1 at HE hN;have HL1:=hide hl1;clear hl1
 go_enter Tryz.func170,Tryz.ntmps170
 go_wp2_with fail
 refine(zvc s.size v l base w (by omega) (by omega) hb hown).mono ?_;rintro e w1 ⟨v1,rfl,hown1,hgrew1⟩;rw[HL1.out] at hown1;have hz:base<=w1.heap.size:=by have:=hgrew1.grown.size;omega
 go_wp2_with (at_builtin;refine zbw _ rfl (.tmp 9) (.tmp 10) 34 9 rfl base 5 i0 (.int .u8 0) 1 1 Tryz.underlying34 hi hz0 hz1 hz2 rfl (by decide) _ _ _ rfl hown1 _ s.size (byteCells s) rfl (Src.ofString _ Tryz.underlying9 s) ?_ ?_ ?_ ?_)
 ·unfold maxLen;omega
 ·omega
 ·exact hz
 ·intro v2 w2 hown2 hgrew2
  go_wp2
  go_ret
  exact⟨v2,rfl,zfi hown2 HE.out.2.symm HE.out.1.symm,hgrew1.trans hgrew2⟩
end Go.Proofs.YtoijpogadkogcaaGreat
