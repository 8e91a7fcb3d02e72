import Derived.Test.YtoijpogadkogcaaGreatRows
import Derived.WalkKit
import Derived.WalkSpells
import Derived.WalkLawsBesides
import Derived.Deep.AppendSrc
namespace Go.Proofs.YtoijpogadkogcaaGreat
def nameB (c:UInt8):Bool:=(97≤c && c≤122) || (48≤c && c≤57) || c == 45
def okName (l:List UInt8):Bool:=decide (1≤l.length) && decide (l.length≤20) && (l.drop (if l.head? = some 58∧1<l.length then 1 else 0)).all nameB
def valB (c:UInt8):Bool:=32≤c && c≤126
def okValue (l:List UInt8):Bool:=decide (l.length≤60) && l.all valB
def okPair (p:List UInt8×List UInt8):Bool:=okName p.1 && okValue p.2
def tbl:List (List UInt8×List UInt8) :=
 [([58,109,101,116,104,111,100],[71,69,84]),([58,109,101,116,104,111,100],[80,85,84]),([58,112,97,116,104],[47]),([58,112,97,116,104],[47,105,110,100,101,120]),
  ([58,115,116,97,116,117,115],[50,48,48]),([58,115,116,97,116,117,115],[52,48,52]),([58,115,116,97,116,117,115],[53,48,48]),([97,99,99,101,112,116],[]),
  ([97,103,101],[]),([99,111,111,107,105,101],[]),([100,97,116,101],[]),([104,111,115,116],[]),([108,101,110,103,116,104],[]),([115,101,114,118,101,114],[]),
  ([116,121,112,101],[116,101,120,116]),([116,121,112,101],[106,115,111,110])]
def least (q:List UInt8×List UInt8→Bool):List (List UInt8×List UInt8)→Nat
 | []=>0
 | a::r=>if q a then 1 else if least q r=0 then 0 else least q r+1
def wholeQ (p a:List UInt8×List UInt8):Bool:=(a.2 != []) && (a == p)
def nameQ (n:List UInt8) (a:List UInt8×List UInt8):Bool:=a.1 == n
def entryOf (p:List UInt8×List UInt8):Nat:=least (wholeQ p) tbl
def entryNamed (n:List UInt8):Nat:=least (nameQ n) tbl
theorem zgo (q:List UInt8×List UInt8→Bool) (l:List (List UInt8×List UInt8)):least q l≤l.length:=by
 induction l with
 | nil=>simp[least]
 | cons a r ih =>
  simp only[least,List.length_cons];split <;> try split <;> omega
  omega
theorem zhg (q:List UInt8×List UInt8→Bool) (l:List (List UInt8×List UInt8)) (h:0<least q l):q (l.getD (least q l-1) ([],[]))=true:=by
 induction l with
 | nil=>simp[least] at h
 | cons a r ih =>
  by_cases ha:q a=true
  ·simp[least,ha]
  ·by_cases hr:least q r=0
   ·simp[least,ha,hr] at h
   ·have:=ih (by omega)
    have e:least q (a::r)=least q r+1:=by simp[least,ha,hr]
    obtain⟨m,hm⟩:∃ m,least q r=m+1:=⟨least q r-1,by omega⟩;rw[e,hm];rw[hm] at this;simpa using this
theorem znb (q:List UInt8×List UInt8→Bool) (l:List (List UInt8×List UInt8)) (k:Nat) (hk:k<l.length) (h:q (l.getD k ([],[]))=true):0<least q l∧least q l≤k+1:=by
 induction l generalizing k with
 | nil=>simp at hk
 | cons a r ih =>
  by_cases ha:q a=true
  ·simp[least,ha]
  ·cases k with
   | zero=>simp at h;exact absurd h ha
   | succ k =>
    have:=ih k (by simpa using hk) (by simpa using h)
    have e:least q (a::r)=least q r+1:=by simp only[least,ha];rw[if_neg (by simp),if_neg (by omega)]
    omega
theorem zmd (q:List UInt8×List UInt8→Bool) (l:List (List UInt8×List UInt8)) (k:Nat) (hk:k<l.length) (hno:∀ j,j<k→q (l.getD j ([],[]))=false) (h:q (l.getD k ([],[]))=true):least q l=k+1:=by
 have h1:=znb q l k hk h;have h2:=zhg q l h1.1;by_cases hlt:least q l-1<k
 ·rw[hno _ hlt] at h2;cases h2
 ·omega
theorem zod (q:List UInt8×List UInt8→Bool) (l:List (List UInt8×List UInt8)) (hno:∀ j,j<l.length→q (l.getD j ([],[]))=false):least q l=0:=by
 by_cases h:0<least q l
 ·have h2:=zhg q l h
  have:=zgo q l
  rw[hno _ (by omega)] at h2;cases h2
 ·omega
def encN (high full n:Nat):List UInt8:=if n<full then [UInt8.ofNat (high+n)] else [UInt8.ofNat (high+full),UInt8.ofNat (n-full)]
def encT (l:List UInt8):List UInt8:=encN 0 31 l.length++l
def encH (p:List UInt8×List UInt8):List UInt8 :=
 if 0<entryOf p then encN 128 7 (entryOf p)
 else if 0<entryNamed p.1 then encN 64 7 (entryNamed p.1)++encT p.2
 else 0::(encT p.1++encT p.2)
def encAll:List (List UInt8×List UInt8)→List UInt8
 | []=>[]
 | p::r=>encH p++encAll r
def decTail:Nat→Nat→Nat→List UInt8→Option (Nat×List UInt8)
 | 0,_,_,_=>none
 | _+1,_,_,[]=>none
 | f+1,acc,i,c::r =>
  if 128≤c.toNat then decTail f (acc+c.toNat%128*2 ^ (7*i)) (i+1) r
  else if 9999<acc+c.toNat%128*2 ^ (7*i) then none else some (acc+c.toNat%128*2 ^ (7*i),r)
def decN (full:Nat):List UInt8→Option (Nat×List UInt8)
 | []=>none
 | c::r=>if c.toNat%(full+1)<full then some (c.toNat%(full+1),r) else decTail 3 full 0 r
def decT:List UInt8→Option (List UInt8×List UInt8)
 | []=>none
 | c::r=>if 31<c.toNat then none else
  match decN 31 (c::r) with
  | none=>none
  | some (n,rest)=>if rest.length<n then none else some (rest.take n,rest.drop n)
def decE (l:List UInt8):Option ((List UInt8×List UInt8)×List UInt8) :=
 match decN 7 l with
 | none=>none
 | some (n,rest)=>if n<1∨16<n then none else some (tbl.getD (n-1) ([],[]),rest)
def decA (l:List UInt8):Option ((List UInt8×List UInt8)×List UInt8) :=
 match decE l with
 | none=>none
 | some (p,rest)=>if p.2=[] then none else some (p,rest)
def decB (l:List UInt8):Option ((List UInt8×List UInt8)×List UInt8) :=
 match decE l with
 | none=>none
 | some (p,rest)=>match decT rest with
  | none=>none
  | some (v,rest')=>some ((p.1,v),rest')
def decC (r:List UInt8):Option ((List UInt8×List UInt8)×List UInt8) :=
 match decT r with
 | none=>none
 | some (n,rest)=>match decT rest with
  | none=>none
  | some (v,rest')=>some ((n,v),rest')
def decRaw:List UInt8→Option ((List UInt8×List UInt8)×List UInt8)
 | []=>none
 | c::r=>if c.toNat/8=16 then decA (c::r) else if c.toNat/8=8 then decB (c::r) else if c.toNat=0 then decC r else none
def decH (l:List UInt8):Option ((List UInt8×List UInt8)×List UInt8) :=
 match decRaw l with
 | none=>none
 | some (p,rest)=>if okPair p=true then some (p,rest) else none
def decL:Nat→List UInt8→Option (List (List UInt8×List UInt8))
 | _,[]=>some []
 | 0,_::_=>none
 | k+1,c::r=>match decH (c::r) with
  | none=>none
  | some (p,rest)=>match decL k rest with
   | none=>none
   | some m=>some (p::m)
theorem zgp (high full n:Nat):(encN high full n).length=if n<full then 1 else 2:=by unfold encN;split <;> rfl
theorem zcc (high full n:Nat):1≤(encN high full n).length∧(encN high full n).length≤2:=by rw[zgp];split <;> omega
theorem zqx (high high' full n m:Nat) (h:n≤m):(encN high full n).length≤(encN high' full m).length:=by rw[zgp,zgp];split <;> split <;> omega
theorem zcp (l:List UInt8):(encT l).length=(if l.length<31 then 1 else 2)+l.length:=by unfold encT;rw[List.length_append,zgp]
theorem zvs (f acc i n:Nat) (l rest:List UInt8) (h:decTail f acc i l=some (n,rest)):rest.length+1≤l.length:=by
 induction f generalizing acc i l with
 | zero=>simp[decTail] at h
 | succ f ih =>
  cases l with
  | nil=>simp[decTail] at h
  | cons c r =>
   simp only[decTail] at h;split at h
   ·have:=ih _ _ _ h;simp only[List.length_cons];omega
   ·split at h
    ·cases h
    ·simp only[Option.some.injEq,Prod.mk.injEq] at h;rw[←h.2];simp
theorem zym (f acc i n:Nat) (l rest:List UInt8) (h:decTail f acc i l=some (n,rest)):n≤9999:=by
 induction f generalizing acc i l with
 | zero=>simp[decTail] at h
 | succ f ih =>
  cases l with
  | nil=>simp[decTail] at h
  | cons c r =>
   simp only[decTail] at h;split at h
   ·exact ih _ _ _ h
   ·split at h
    ·cases h
    ·simp only[Option.some.injEq,Prod.mk.injEq] at h;omega
theorem znc (high full n:Nat) (l rest:List UInt8) (h:decN full l=some (n,rest)):(encN high full n).length+rest.length≤l.length:=by
 cases l with
 | nil=>simp[decN] at h
 | cons c r =>
  simp only[decN] at h;rw[zgp];split at h
  ·simp only[Option.some.injEq,Prod.mk.injEq] at h;obtain⟨rfl,rfl⟩:=h;rw[if_pos (by assumption)];simp only[List.length_cons];omega
  ·have:=zvs _ _ _ _ _ _ h;simp only[List.length_cons];split <;> omega
theorem zev (l v rest:List UInt8) (h:decT l=some (v,rest)):(encT v).length+rest.length≤l.length:=by
 cases l with
 | nil=>simp[decT] at h
 | cons c r =>
  simp only[decT] at h;split at h
  ·cases h
  ·split at h
   ·cases h
   ·rename_i n rs hn
    split at h
    ·cases h
    ·have h1:=znc 0 31 n _ _ hn;simp only[Option.some.injEq,Prod.mk.injEq] at h;obtain⟨rfl,rfl⟩:=h;unfold encT;have hl:(rs.take n).length=n:=by rw[List.length_take];omega
     rw[List.length_append,hl,List.length_drop];omega
theorem zlo (l rest:List UInt8) (p:List UInt8×List UInt8) (h:decE l=some (p,rest)):∃ n,1≤n∧n≤16∧p=tbl.getD (n-1) ([],[])∧(∀ high,(encN high 7 n).length+rest.length≤l.length):=by
 unfold decE at h;split at h
 ·cases h
 ·rename_i n rs hn
  split at h
  ·cases h
  ·simp only[Option.some.injEq,Prod.mk.injEq] at h;obtain⟨rfl,rfl⟩:=h;exact⟨n,by omega,by omega,rfl,fun high=>znc high 7 n _ _ hn⟩
theorem zyn (l rest:List UInt8) (p:List UInt8×List UInt8) (h:decRaw l=some (p,rest)):(encH p).length+rest.length≤l.length:=by
 cases l with
 | nil=>simp[decRaw] at h
 | cons c r =>
  simp only[decRaw] at h;split at h
  ·unfold decA at h;split at h
   ·cases h
   ·rename_i q rs hq
    split at h
    ·cases h
    ·rename_i hv
     simp only[Option.some.injEq,Prod.mk.injEq] at h;obtain⟨rfl,rfl⟩:=h;obtain⟨n,h1,h2,hp,hl⟩:=zlo _ _ _ hq;have hw:=znb (wholeQ q) tbl (n-1) (by show n-1<16;omega) (by rw[←hp];simp[wholeQ,hv]);have hl:=hl 128;have hm:=zqx 128 128 7 (entryOf q) n (by unfold entryOf;omega);unfold encH;rw[if_pos (by unfold entryOf;exact hw.1)];omega
  ·split at h
   ·unfold decB at h;split at h
    ·cases h
    ·rename_i q rs hq
     split at h
     ·cases h
     ·rename_i v rs' hv
      simp only[Option.some.injEq,Prod.mk.injEq] at h;obtain⟨rfl,rfl⟩:=h;obtain⟨n,h1,h2,hp,hl⟩:=zlo _ _ _ hq;have hl:=hl 64;have hd:=zev _ _ _ hv;have ht:=zcp v;have hw:=znb (nameQ q.1) tbl (n-1) (by show n-1<16;omega) (by rw[←hp];simp[nameQ]);have hm:=zqx 64 64 7 (entryNamed q.1) n (by unfold entryNamed;omega);have hb:=zcc 128 7 (entryOf (q.1,v));have hb':=zcc 64 7 n;have ht1:1≤(encT v).length:=by rw[ht];split <;> omega
      unfold encH;split
      ·omega
      ·rw[if_pos (by unfold entryNamed;exact hw.1),List.length_append]
       show (encN 64 7 (entryNamed q.1)).length+(encT v).length+_≤_
       omega
   ·split at h
    ·unfold decC at h;split at h
     ·cases h
     ·rename_i n rs hn
      split at h
      ·cases h
      ·rename_i v rs' hv
       simp only[Option.some.injEq,Prod.mk.injEq] at h;obtain⟨rfl,rfl⟩:=h;have hd:=zev _ _ _ hn;have hd':=zev _ _ _ hv;have ht:=zcp v;have ht':=zcp n;have ht1:1≤(encT v).length:=by rw[ht];split <;> omega
       have ht2:1≤(encT n).length:=by rw[ht'];split <;> omega
       have hb:=zcc 128 7 (entryOf (n,v));have hb':=zcc 64 7 (entryNamed n);rw[List.length_cons];unfold encH;split
       ·omega
       ·split
        ·rw[List.length_append]
         show (encN 64 7 (entryNamed n)).length+(encT v).length+_≤_
         omega
        ·rw[List.length_cons,List.length_append]
         show (encT n).length+(encT v).length+1+_≤_
         omega
    ·cases h
theorem zjc (p:List UInt8×List UInt8):1≤(encH p).length:=by
 have hb:=zcc 128 7 (entryOf p);have hb':=zcc 64 7 (entryNamed p.1);unfold encH;split
 ·omega
 ·split
  ·rw[List.length_append];omega
  ·rw[List.length_cons];omega
theorem zst (l rest:List UInt8) (p:List UInt8×List UInt8) (h:decH l=some (p,rest)):okPair p=true∧(encH p).length+rest.length≤l.length:=by
 unfold decH at h;split at h
 ·cases h
 ·rename_i q rs hq
  split at h
  ·simp only[Option.some.injEq,Prod.mk.injEq] at h;obtain⟨rfl,rfl⟩:=h;exact⟨by assumption,zyn _ _ _ hq⟩
  ·cases h
theorem zzbdf (k:Nat) (l:List UInt8) (m:List (List UInt8×List UInt8)) (h:decL k l=some m):m.length≤k∧(∀ p∈m,okPair p=true)∧(encAll m).length≤l.length∧(l≠[]→m≠[]):=by
 induction k generalizing l m with
 | zero =>
  cases l with
  | nil=>simp only[decL,Option.some.injEq] at h;subst h;simp[encAll]
  | cons c r=>simp[decL] at h
 | succ k ih =>
  cases l with
  | nil=>simp only[decL,Option.some.injEq] at h;subst h;simp[encAll]
  | cons c r =>
   simp only[decL] at h;split at h
   ·cases h
   ·rename_i p rest hp
    split at h
    ·cases h
    ·rename_i m' hm
     simp only[Option.some.injEq] at h;subst h;obtain⟨h1,h2,h3,_⟩:=ih _ _ hm;obtain⟨g1,g2⟩:=zst _ _ _ hp;refine⟨by simp;omega,?_,?_,by simp⟩
     ·intro q hq;rcases List.mem_cons.1 hq with rfl | hq
      ·exact g1
      ·exact h2 _ hq
     ·show (encH p++encAll m').length≤_
      rw[List.length_append];omega
theorem zsu (high full n:Nat) (r:List UInt8) (hf:(full=7∧(high=128∨high=64))∨(full=31∧high=0)) (hn:n≤100):decN full (encN high full n++r)=some (n,r):=by
 unfold encN;split
 ·have e:(UInt8.ofNat (high+n)).toNat=high+n:=by rw[UInt8.toNat_ofNat'];omega
  have e2:(high+n)%(full+1)=n:=by rcases hf with ⟨rfl,rfl | rfl⟩ | ⟨rfl,rfl⟩ <;> omega
  simp only[List.cons_append,List.nil_append,decN,e,e2];rw[if_pos (by assumption)]
 ·have e:(UInt8.ofNat (high+full)).toNat=high+full:=by rw[UInt8.toNat_ofNat'];omega
  have e2:(high+full)%(full+1)=full:=by rcases hf with ⟨rfl,rfl | rfl⟩ | ⟨rfl,rfl⟩ <;> omega
  have e3:(UInt8.ofNat (n-full)).toNat=n-full:=by rw[UInt8.toNat_ofNat'];omega
  simp only[List.cons_append,List.nil_append,decN,e,e2];rw[if_neg (by omega)];simp only[decTail,e3];have e4:(n-full)%128=n-full:=Nat.mod_eq_of_lt (by omega);rw[if_neg (by omega),e4,if_neg (by simp;omega)];simp;omega
theorem zkd (high full n:Nat) (r:List UInt8) (h:high+full<256):∃ c t,encN high full n++r=c::t∧(c.toNat=high+n∧n<full∨c.toNat=high+full∧full≤n):=by
 unfold encN;split
 ·exact⟨_,_,rfl,.inl ⟨by rw[UInt8.toNat_ofNat'];omega,by assumption⟩⟩
 ·exact⟨_,_,rfl,.inr ⟨by rw[UInt8.toNat_ofNat'];omega,by omega⟩⟩
theorem znd (v r:List UInt8) (hv:v.length≤60):decT (encT v++r)=some (v,r):=by
 have h:=zsu 0 31 v.length (v++r) (.inr ⟨rfl,rfl⟩) (by omega);obtain⟨c,t,he,hc⟩:=zkd 0 31 v.length (v++r) (by omega);unfold encT;rw[List.append_assoc];rw[he] at h ⊢;simp only[decT,h];rw[if_neg (by omega),if_neg (by simp)];simp
theorem zej (p:List UInt8×List UInt8) (h:okPair p=true):1≤p.1.length∧p.1.length≤20∧p.2.length≤60:=by
 simp[okPair,okName,okValue] at h;omega
theorem zsv (high n:Nat) (r:List UInt8) (hh:high=128∨high=64) (h1:1≤n) (h2:n≤16):decE (encN high 7 n++r)=some (tbl.getD (n-1) ([],[]),r):=by
 unfold decE;rw[zsu high 7 n r (.inl ⟨rfl,hh⟩) (by omega)];simp only;rw[if_neg (by omega)]
theorem zyo (p:List UInt8×List UInt8) (r:List UInt8) (h:okPair p=true):decRaw (encH p++r)=some (p,r):=by
 obtain⟨l1,l2,l3⟩:=zej p h;unfold encH;split
 ·rename_i hw
  have hle:entryOf p≤16:=zgo _ tbl;have hhit:=zhg _ tbl hw;have he:=zsv 128 (entryOf p) r (.inl rfl) hw hle;obtain⟨c,t,hc,hv⟩:=zkd 128 7 (entryOf p) r (by omega);rw[hc] at he ⊢;simp only[wholeQ,Bool.and_eq_true,bne_iff_ne,ne_eq,beq_iff_eq] at hhit;obtain⟨hh1,hh2⟩:=hhit;change tbl.getD (entryOf p-1) ([],[])=p at hh2;change ¬ (tbl.getD (entryOf p-1) ([],[])).2=[] at hh1;simp only[decRaw];rw[if_pos (by omega)];unfold decA;rw[he];rw[hh2] at hh1 ⊢;simp only;rw[if_neg hh1]
 ·split
  ·rename_i hw
   have hle:entryNamed p.1≤16:=zgo _ tbl;have hhit:=zhg _ tbl hw;have he:=zsv 64 (entryNamed p.1) (encT p.2++r) (.inr rfl) hw hle;obtain⟨c,t,hc,hv⟩:=zkd 64 7 (entryNamed p.1) (encT p.2++r) (by omega);simp only[nameQ,beq_iff_eq] at hhit;change (tbl.getD (entryNamed p.1-1) ([],[])).1=p.1 at hhit;rw[List.append_assoc];rw[hc] at he ⊢;simp only[decRaw];rw[if_neg (by omega),if_pos (by omega)];unfold decB;rw[he];simp only[znd p.2 r l3,hhit]
  ·simp only[List.cons_append,List.append_assoc,decRaw];rw[if_neg (by decide),if_neg (by decide),if_pos (by decide)];unfold decC;rw[znd p.1 _ (by omega)];simp only[znd p.2 r l3]
theorem zsw (k:Nat) (m:List (List UInt8×List UInt8)) (hk:m.length≤k) (h:∀ p∈m,okPair p=true):decL k (encAll m)=some m:=by
 induction m generalizing k with
 | nil=>cases k <;> rfl
 | cons p r ih =>
  cases k with
  | zero=>simp at hk
  | succ k =>
   have hp:=h p (by simp);have hr:=zyo p (encAll r) hp;have hpos:=zjc p
   show decL (k+1) (encH p++encAll r)=_
   generalize hx:encH p++encAll r=x at hr ⊢;cases x with
   | nil=>have:=congrArg List.length hx;rw[List.length_append,List.length_nil] at this;omega
   | cons c t =>
    simp only[decL,decH,hr,hp,if_true];rw[ih k (by simpa using hk) (fun q hq=>h q (by simp[hq]))]
theorem zzbey (p:List UInt8×List UInt8) (h:okPair p=true):(encH p).length≤84:=by
 obtain⟨l1,l2,l3⟩:=zej p h;have hb:=zcc 128 7 (entryOf p);have hb':=zcc 64 7 (entryNamed p.1);have t1:=zcp p.1;have t2:=zcp p.2;unfold encH;split
 ·omega
 ·split
  ·rw[List.length_append,t2];split <;> omega
  ·rw[List.length_cons,List.length_append,t1,t2];split <;> split <;> omega
theorem zhh (m:List (List UInt8×List UInt8)) (h:∀ p∈m,okPair p=true):(encAll m).length≤84*m.length∧m.length≤(encAll m).length:=by
 induction m with
 | nil=>simp[encAll]
 | cons p r ih =>
  have h1:=zzbey p (h p (by simp));have h2:=zjc p;have h3:=ih (fun q hq=>h q (by simp[hq]))
  show (encH p++encAll r).length≤_∧_≤(encH p++encAll r).length
  rw[List.length_append,List.length_cons];omega
theorem zse (a b:List (List UInt8×List UInt8)):encAll (a++b)=encAll a++encAll b:=by
 induction a with
 | nil=>rfl
 | cons p r ih=>show encH p++encAll (r++b)=(encH p++encAll r)++encAll b;rw[ih,List.append_assoc]
open Go.RowKit
set_option maxRecDepth 100000
set_option maxHeartbeats 400000 in
theorem full3 (w:World):Calls Tryz.prog 194 #[.int .i64 3] w fun e w'=>e = .returned (.int .i64 7)∧w'=w:=by
 go_enter Tryz.func194,Tryz.ntmps194
 go_wp2
 go_ret
 exact⟨rfl,rfl⟩
set_option maxHeartbeats 400000 in
theorem full5 (w:World):Calls Tryz.prog 194 #[.int .i64 5] w fun e w'=>e = .returned (.int .i64 31)∧w'=w:=by
 go_enter Tryz.func194,Tryz.ntmps194
 go_wp2
 go_ret
 exact⟨rfl,rfl⟩
theorem hide {p:Prop} (h:p):Hid p:=h
theorem unhide {p:Prop} (h:Hid p):p:=h.out
theorem zax {a b:Bool} (h:a=b):Ending.returned (.bool a) = .returned (.bool b):=by rw[h]
theorem zbm {k:IntKind} {a b:Int} (h:a=b):Ending.returned (.int k a) = .returned (.int k b):=by rw[h]
theorem zzbdg (c:UInt8):nameB c=decide ((97≤c.toNat∧c.toNat≤122)∨(48≤c.toNat∧c.toNat≤57)∨c.toNat=45):=by
 rw[Bool.eq_iff_iff];simp[nameB,UInt8.le_iff_toNat_le,←UInt8.toNat_inj];omega
theorem zxh (c:UInt8):valB c=decide (32≤c.toNat∧c.toNat≤126):=by
 rw[Bool.eq_iff_iff];simp[valB,UInt8.le_iff_toNat_le]
set_option maxHeartbeats 400000 in
theorem zdi (c:UInt8) (w:World):Calls Tryz.prog 193 #[.int .u8 (c.toNat:Int)] w fun e w'=>e = .returned (.bool (nameB c))∧w'=w:=by
 have hc:c.toNat<256:=c.toNat_lt;generalize hb:nameB c=b;rw[zzbdg] at hb;have HB:=hide hb;clear hb;by_cases h1:97≤c.toNat
 ·by_cases h2:c.toNat≤122
  all_goals
   go_enter Tryz.func193,Tryz.ntmps193
   go_wp2
   all_goals
    go_ret
    exact⟨zax (by rw[←unhide HB,Bool.eq_iff_iff];simp;omega),rfl⟩
 ·by_cases h2:48≤c.toNat
  all_goals
   go_enter Tryz.func193,Tryz.ntmps193
   go_wp2
   all_goals
    go_ret
    exact⟨zax (by rw[←unhide HB,Bool.eq_iff_iff];simp;omega),rfl⟩
theorem zke (s:ByteArray) (k:Nat) (h:k<s.size):s.data.toList.getD k 0=s[k]:=by
 rw[List.getD_eq_getElem?_getD,List.getElem?_eq_getElem (by simpa using h)];rfl
theorem zju (q:UInt8→Bool) (l:List UInt8) (f k:Nat) (hf:f≤k) (hk:k<l.length) (h:q (l.getD k 0)=false):(l.drop f).all q=false:=by
 rw[List.all_eq_false];refine⟨l[k],?_,?_⟩
 ·rw[List.mem_drop_iff_getElem];exact⟨k-f,by omega,by congr 1;omega⟩
 ·rw[List.getD_eq_getElem?_getD,List.getElem?_eq_getElem hk] at h;simpa using h
theorem zkf (q:UInt8→Bool) (l:List UInt8) (f:Nat) (h:∀ j,f≤j→j<l.length→q (l.getD j 0)=true):(l.drop f).all q=true:=by
 rw[List.all_eq_true];intro x hx;rw[List.mem_drop_iff_getElem] at hx;obtain⟨i,hi,rfl⟩:=hx
 have:=h (f+i) (by omega) (by omega)
 rw[List.getD_eq_getElem?_getD,List.getElem?_eq_getElem (by omega)] at this;simpa using this
theorem zkg (s:ByteArray) (k:Nat) (h:k<s.size) (hb:Hid (s.data.toList.getD k 0=s[k])) (hv:(s[k].toNat:Int)<32∨126<(s[k].toNat:Int)):okValue s.data.toList=false:=by
 have:=zju valB s.data.toList 0 k (Nat.zero_le _) (by simpa using h) (by rw[hb.out,zxh];simp;omega)
 unfold okValue;rw[List.drop_zero] at this;rw[this,Bool.and_false]
theorem zvt (s:ByteArray) (h60:s.size≤60) (k:Nat) (hk:¬ k<s.size) (h:Hid (∀ j,0≤j→j<k→valB (s.data.toList.getD j 0)=true)):okValue s.data.toList=true:=by
 have hl:s.data.toList.length=s.size:=by simp
 have:=zkf valB s.data.toList 0 (fun j h0 hj=>h.out j h0 (by omega))
 unfold okValue;rw[List.drop_zero] at this;rw[this,Bool.and_true];simpa using h60
set_option maxHeartbeats 800000 in
theorem zme (s:ByteArray) (w:World) (hs:s.size≤maxLen):Calls Tryz.prog 166 #[.string s] w fun e w'=>e = .returned (.bool (okValue s.data.toList))∧w'=w:=by
 unfold maxLen at hs;by_cases h60:s.size≤60
 ·go_enter Tryz.func166,Tryz.ntmps166
  go_wp2
  go_loop [3] (fun i => ∃ k:Nat,k≤s.size∧i = .int .i64 k∧Hid (∀ j,0≤j→j<k→valB (s.data.toList.getD j 0)=true)) (fun i=>s.size-(intOf i).toNat)
  case atStart=>exact⟨0,Nat.zero_le _,rfl,fun j _ h=>by omega⟩
  case round =>
   obtain⟨k,hk,rfl,HA⟩:=hrel;by_cases hlt:k<s.size
   ·have HB:Hid (s.data.toList.getD k 0=s[k]):=zke s k hlt;have hv:(s[k]).toNat<256:=(s[k]).toNat_lt;by_cases h1:(s[k].toNat:Int)<32
    ·go_wp2
     go_ret
     exact⟨zax (by rw[zkg s k hlt HB (.inl h1)]),rfl⟩
    ·by_cases h2:126<(s[k].toNat:Int)
     ·go_wp2
      go_ret
      exact⟨zax (by rw[zkg s k hlt HB (.inr h2)]),rfl⟩
     ·go_wp2
      go_round
      case rel =>
       refine⟨k+1,by omega,by go_num,fun j _ hj => ?_⟩;by_cases e:j=k
       ·subst e;rw[HB.out,zxh];simp;omega
       ·exact HA.out j (Nat.zero_le _) (by omega)
      case measure=>simp[intOf];omega
   ·go_wp2
    go_ret
    exact⟨zax (by rw[zvt s h60 k hlt HA]),rfl⟩
 ·go_enter Tryz.func166,Tryz.ntmps166
  go_wp2
  go_ret
  exact⟨zax (by simp[okValue];omega),rfl⟩
theorem zmf (l:List UInt8) (f k:Nat) (hf:(if l.head? = some 58∧1<l.length then 1 else 0)=f) (hfk:f≤k) (h:k<l.length) (hv:nameB (l.getD k 0)=false):okName l=false:=by
 have:=zju nameB l f k hfk h hv
 unfold okName;rw[hf,this,Bool.and_false]
theorem zoe (l:List UInt8) (f k:Nat) (h1:1≤l.length) (h20:l.length≤20) (hf:(if l.head? = some 58∧1<l.length then 1 else 0)=f) (hk:¬ k<l.length) (h:∀ j,f≤j→j<k→nameB (l.getD j 0)=true):okName l=true:=by
 have:=zkf nameB l f (fun j h0 hj=>h j h0 (by omega))
 unfold okName;rw[hf,this];simp[h1,h20]
theorem zzbez (s:ByteArray) (h:0<s.size):s.data.toList.head? = some s[0]:=by
 rw[List.head?_eq_getElem?,List.getElem?_eq_getElem (by simpa using h)];rfl
set_option maxHeartbeats 1600000 in
theorem zof (s:ByteArray) (w:World) (hs:s.size≤maxLen):Calls Tryz.prog 165 #[.string s] w fun e w'=>e = .returned (.bool (okName s.data.toList))∧w'=w:=by
 unfold maxLen at hs;have hl:s.data.toList.length=s.size:=by simp
 have HL:=hide hl;clear hl;by_cases h1:1≤s.size
 ·by_cases h20:s.size≤20
  ·have hp:0<s.size:=h1;have Hh:Hid (s.data.toList.head? = some s[0]):=zzbez s hp;obtain⟨f,hfle,Hf,hst⟩:∃ f:Nat,f≤s.size∧Hid ((if s.data.toList.head? = some 58∧1<s.data.toList.length then 1 else 0)=f)∧((f=0∧(((s[0].toNat:Int) == 58)=false ∨ ¬ (1:Int)<s.size))∨(f=1∧((s[0].toNat:Int) == 58)=true∧(1:Int)<s.size)):=by
    by_cases hc:s[0].toNat=58
    ·by_cases hq:1<s.size
     ·exact⟨1,h1,by show (if _ then 1 else 0)=1;rw[if_pos ⟨by rw[Hh.out];exact congrArg some (UInt8.toNat_inj.1 hc),by rw[HL.out];exact hq⟩],.inr ⟨rfl,by simp[hc],by omega⟩⟩
     ·exact⟨0,Nat.zero_le _,by show (if _ then 1 else 0)=0;rw[if_neg (fun h=>hq (by have:=h.2;rw[HL.out] at this;exact this))],.inl ⟨rfl,.inr (by omega)⟩⟩
    ·exact⟨0,Nat.zero_le _,by show (if _ then 1 else 0)=0;rw[if_neg (fun h=>hc (by have:=h.1;rw[Hh.out] at this;injection this with this;rw[this];rfl))],.inl ⟨rfl,.inl (by simp;omega)⟩⟩
   clear Hh;rcases hst with ⟨rfl,hst⟩ | ⟨rfl,hst,hst2⟩
   ·rcases hst with hst | hst
    all_goals
     go_enter Tryz.func165,Tryz.ntmps165
     go_wp2
     all_goals
      go_loop [4] (fun i => ∃ k:Nat,0≤k∧k≤s.size∧i = .int .i64 k∧Hid (∀ j,0≤j→j<k→nameB (s.data.toList.getD j 0)=true)) (fun i=>s.size-(intOf i).toNat)
      case atStart=>exact⟨0,Nat.le_refl _,by omega,rfl,fun j h0 h=>by omega⟩
      case round =>
       obtain⟨k,hfk,hk,rfl,HA⟩:=hrel;by_cases hlt:k<s.size
       ·have HB:Hid (s.data.toList.getD k 0=s[k]):=zke s k hlt;have hv:(s[k]).toNat<256:=(s[k]).toNat_lt;cases hn:nameB s[k]
        ·have HN:=hide hn;clear hn
         go_wp2_with (go_at_call 193;refine(zdi _ _).mono ?_;rintro e w' ⟨rfl,rfl⟩;rw[HN.out])
         go_ret
         exact⟨zax (by rw[zmf s.data.toList 0 k Hf.out hfk (by rw[HL.out];exact hlt) (by rw[HB.out,HN.out])]),rfl⟩
        ·have HN:=hide hn;clear hn
         go_wp2_with (go_at_call 193;refine(zdi _ _).mono ?_;rintro e w' ⟨rfl,rfl⟩;rw[HN.out])
         go_round
         case rel =>
          refine⟨k+1,by omega,by omega,by go_num,fun j h0 hj => ?_⟩;by_cases e:j=k
          ·subst e;rw[HB.out,HN.out]
          ·exact HA.out j h0 (by omega)
         case measure=>simp[intOf];omega
       ·go_wp2
        go_ret
        exact⟨zax (by rw[zoe s.data.toList 0 k (by rw[HL.out];exact h1) (by rw[HL.out];exact h20) Hf.out (by rw[HL.out];exact hlt) HA.out]),rfl⟩
   ·skip
    go_enter Tryz.func165,Tryz.ntmps165
    go_wp2
    all_goals
     go_loop [4] (fun i => ∃ k:Nat,1≤k∧k≤s.size∧i = .int .i64 k∧Hid (∀ j,1≤j→j<k→nameB (s.data.toList.getD j 0)=true)) (fun i=>s.size-(intOf i).toNat)
     case atStart=>exact⟨1,Nat.le_refl _,by omega,rfl,fun j h0 h=>by omega⟩
     case round =>
      obtain⟨k,hfk,hk,rfl,HA⟩:=hrel;by_cases hlt:k<s.size
      ·have HB:Hid (s.data.toList.getD k 0=s[k]):=zke s k hlt;have hv:(s[k]).toNat<256:=(s[k]).toNat_lt;cases hn:nameB s[k]
       ·have HN:=hide hn;clear hn
        go_wp2_with (go_at_call 193;refine(zdi _ _).mono ?_;rintro e w' ⟨rfl,rfl⟩;rw[HN.out])
        go_ret
        exact⟨zax (by rw[zmf s.data.toList 1 k Hf.out hfk (by rw[HL.out];exact hlt) (by rw[HB.out,HN.out])]),rfl⟩
       ·have HN:=hide hn;clear hn
        go_wp2_with (go_at_call 193;refine(zdi _ _).mono ?_;rintro e w' ⟨rfl,rfl⟩;rw[HN.out])
        go_round
        case rel =>
         refine⟨k+1,by omega,by omega,by go_num,fun j h0 hj => ?_⟩;by_cases e:j=k
         ·subst e;rw[HB.out,HN.out]
         ·exact HA.out j h0 (by omega)
        case measure=>simp[intOf];omega
      ·go_wp2
       go_ret
       exact⟨zax (by rw[zoe s.data.toList 1 k (by rw[HL.out];exact h1) (by rw[HL.out];exact h20) Hf.out (by rw[HL.out];exact hlt) HA.out]),rfl⟩
  ·go_enter Tryz.func165,Tryz.ntmps165
   go_wp2
   go_ret
   exact⟨zax (by simp[okName];omega),rfl⟩
 ·go_enter Tryz.func165,Tryz.ntmps165
  go_wp2
  go_ret
  exact⟨zax (by simp[okName];omega),rfl⟩
open Go.RowKit
theorem zbt {w:World} {a:Addr} {v:Value} (h:w.cell? a=some v):a.block<w.heap.size:=by
 by_cases hlt:a.block<w.heap.size
 ·exact hlt
 ·have:w.heap[a.block]? = none:=by rw[Array.getElem?_eq_none_iff];omega
  simp[World.cell?,this] at h
abbrev Ext (w w':World):Prop:=Below w.heap.size w w'
theorem Ext.refl (w:World):Ext w w:=Below.refl _ _
theorem Ext.trans {a b c:World} (h:Ext a b) (k:Ext b c):Ext a c:=Below.trans h (Below.mono k h.size)
theorem Ext.cell {w w':World} (h:Ext w w') {a:Addr} {v:Value} (hc:w.cell? a=some v):w'.cell? a=some v:=by
 rw[Below.cell h (zbt hc),hc]
theorem Ext.alloc {a w:World} (h:Ext a w) (o:Obj):Ext a (w.alloc o):=Below.alloc h h.size o
theorem Ext.drew {a w:World} (h:Ext a w):Ext a w.drew:=Below.drew h
def IsBytes (w:World) (v:Value) (l:List UInt8):Prop :=
 ∃ a cap,v = .slice a l.length cap∧l.length≤cap∧cap≤maxLen ∧
  (l=[] ∨ ∃ b o,a=some ⟨b,o,none⟩ ∧ ∀ i,i<l.length→w.cell? ⟨b,o+i,none⟩=some (.int .u8 ((l.getD i 0).toNat:Int)))
def IsPairs (w:World) (v:Value) (l:List (List UInt8×List UInt8)):Prop :=
 ∃ a cap,v = .slice a l.length cap∧l.length≤cap∧cap≤maxLen ∧
  (l=[] ∨ ∃ b o,a=some ⟨b,o,none⟩ ∧ ∀ i,i<l.length→w.cell? ⟨b,o+i*2,none⟩=some (.string ⟨(l.getD i ([],[])).1.toArray⟩)∧w.cell? ⟨b,o+i*2+1,none⟩=some (.string ⟨(l.getD i ([],[])).2.toArray⟩))
theorem IsBytes.ext {w w':World} {v:Value} {l:List UInt8} (h:IsBytes w v l) (e:Ext w w'):IsBytes w' v l:=by
 obtain⟨a,cap,rfl,h1,h2,h3⟩:=h;refine⟨a,cap,rfl,h1,h2,?_⟩;rcases h3 with h3 | ⟨b,o,rfl,hc⟩
 ·exact .inl h3
 ·exact .inr ⟨b,o,rfl,fun i hi=>e.cell (hc i hi)⟩
theorem IsPairs.ext {w w':World} {v:Value} {l:List (List UInt8×List UInt8)} (h:IsPairs w v l) (e:Ext w w'):IsPairs w' v l:=by
 obtain⟨a,cap,rfl,h1,h2,h3⟩:=h;refine⟨a,cap,rfl,h1,h2,?_⟩;rcases h3 with h3 | ⟨b,o,rfl,hc⟩
 ·exact .inl h3
 ·exact .inr ⟨b,o,rfl,fun i hi=>⟨e.cell (hc i hi).1,e.cell (hc i hi).2⟩⟩
theorem IsBytes.nil (w:World):IsBytes w (.slice none 0 0) []:=⟨none,0,rfl,by simp,by simp[maxLen],.inl rfl⟩
theorem IsPairs.nil (w:World):IsPairs w (.slice none 0 0) []:=⟨none,0,rfl,by simp,by simp[maxLen],.inl rfl⟩
theorem IsBytes.drop {w:World} {a:Option Addr} {n cap:Nat} {l:List UInt8} (h:IsBytes w (.slice a n cap) l) (k:Nat) (hk:k≤l.length):IsBytes w (sliced a k n cap 1) (l.drop k):=by
 obtain⟨a',cap',he,h1,h2,h3⟩:=h;simp only[Value.slice.injEq] at he;obtain⟨rfl,rfl,rfl⟩:=he;refine⟨_,cap-k,by rw[sliced,List.length_drop],by rw[List.length_drop];omega,by omega,?_⟩;rcases h3 with rfl | ⟨b,o,rfl,hc⟩
 ·simp
 ·by_cases hkl:k=l.length
  ·left;rw[hkl,List.drop_length]
  ·right;refine⟨b,o+k,?_,?_⟩
   ·rw[if_neg (by omega)];simp[Addr.add]
   ·intro i hi;rw[List.length_drop] at hi
    have:=hc (k+i) (by omega)
    rw[Nat.add_assoc,this];simp[List.getD_eq_getElem?_getD,List.getElem?_drop]
def bcells (l:List UInt8):List Value:=l.map fun b=>Value.int .u8 (b.toNat:Int)
def pcells:List (List UInt8×List UInt8)→List Value
 | []=>[]
 | p::r=>Value.string ⟨p.1.toArray⟩::Value.string ⟨p.2.toArray⟩::pcells r
theorem zai (a b:List UInt8):bcells (a++b)=bcells a++bcells b:=List.map_append
theorem zjv (a:List UInt8):(bcells a).length=a.length:=List.length_map _
theorem zjw (a b:List (List UInt8×List UInt8)):pcells (a++b)=pcells a++pcells b:=by
 induction a with
 | nil=>rfl
 | cons p r ih=>show _::_::pcells (r++b)=_;rw[ih];rfl
theorem zkh (a:List (List UInt8×List UInt8)) (i:Nat) (h:i<a.length):(pcells a)[i*2]? = some (.string ⟨(a.getD i ([],[])).1.toArray⟩)∧(pcells a)[i*2+1]? = some (.string ⟨(a.getD i ([],[])).2.toArray⟩):=by
 induction a generalizing i with
 | nil=>simp at h
 | cons p r ih =>
  cases i with
  | zero=>exact⟨rfl,rfl⟩
  | succ i =>
   have:=ih i (by simpa using h)
   have e1:(i+1)*2=i*2+1+1:=by omega
   rw[e1];exact this
theorem zjd {w:World} {base:Nat} {e:TypeId} {size n:Nat} {v:Value} {xs:List Value} (h:w.ownsRow base e size v n xs) :
  ∃ a cap,v = .slice a n cap∧n≤cap∧cap≤maxLen∧(n=0 ∨ ∃ g,a=some ⟨g,0,none⟩∧base≤g ∧ ∀ j,j<n*size→w.cell? ⟨g,j,none⟩=xs[j]?):=by
 rcases h.2 with ⟨rfl,rfl⟩ | ⟨g,cap,cur,rfl,hb,hg,hnc,hcm,hcs,htake⟩
 ·exact⟨none,0,rfl,by simp,by simp[maxLen],.inl rfl⟩
 ·exact⟨_,cap,rfl,hnc,hcm,.inr ⟨g,rfl,hb,fun j hj=>World.ownsRow.cellAt (cap:=cap) h j hj⟩⟩
theorem IsBytes.ofOwns {w:World} {base:Nat} {e:TypeId} {v:Value} {l:List UInt8} (h:w.ownsRow base e 1 v l.length (bcells l)):IsBytes w v l:=by
 obtain⟨a,cap,rfl,h1,h2,h3⟩:=zjd h;refine⟨a,cap,rfl,h1,h2,?_⟩;rcases h3 with h3 | ⟨g,rfl,_,hc⟩
 ·exact .inl (List.eq_nil_of_length_eq_zero h3)
 ·refine .inr ⟨g,0,rfl,fun i hi => ?_⟩;rw[Nat.zero_add,hc i (by omega)];simp[bcells,List.getD_eq_getElem?_getD,List.getElem?_eq_getElem hi]
theorem IsPairs.ofOwns {w:World} {base:Nat} {e:TypeId} {v:Value} {l:List (List UInt8×List UInt8)} (h:w.ownsRow base e 2 v l.length (pcells l)):IsPairs w v l:=by
 obtain⟨a,cap,rfl,h1,h2,h3⟩:=zjd h;refine⟨a,cap,rfl,h1,h2,?_⟩;rcases h3 with h3 | ⟨g,rfl,_,hc⟩
 ·exact .inl (List.eq_nil_of_length_eq_zero h3)
 ·refine .inr ⟨g,0,rfl,fun i hi => ?_⟩
  have:=zkh l i hi
  rw[Nat.zero_add,hc _ (by omega),hc _ (by omega)];exact this
structure Grew (w:World) (v:Value) (w':World) (v':Value):Prop where
 grown:w.grownBy w' v.ownBlock
 place:v'.ownBlock=v.ownBlock ∨ ∃ g,v'.ownBlock=some g∧w.heap.size≤g
theorem Grew.refl (w:World) (v:Value):Grew w v w v:=⟨World.grownBy.refl _ _,.inl rfl⟩
theorem Grew.trans {a b c:World} {u v x:Value} (h:Grew a u b v) (k:Grew b v c x):Grew a u c x:=by
 refine⟨⟨k.grown.os.trans h.grown.os,k.grown.tape.trans h.grown.tape,k.grown.output.trans h.grown.output,Nat.le_trans h.grown.size k.grown.size,fun i hi hne => ?_⟩,?_⟩
 ·rw[k.grown.block i (Nat.lt_of_lt_of_le hi h.grown.size) ?_,h.grown.block i hi hne];rcases h.place with e | ⟨g,e,hg⟩
  ·rw[e];exact hne
  ·rw[e];intro h';injection h' with h';omega
 ·rcases k.place with e | ⟨g,e,hg⟩
  ·rw[e];exact h.place
  ·exact .inr ⟨g,e,Nat.le_trans h.grown.size hg⟩
theorem Grew.alloc (w:World) (v:Value) (o:Obj):Grew w v (w.alloc o) v:=⟨World.grownBy_alloc _ _ _,.inl rfl⟩
theorem Grew.ext (w w':World) (v:Value) (h:Ext w w'):Grew w v w' v:=⟨⟨h.os,h.tape,h.output,h.size,fun k hk _=>h.block k hk⟩,.inl rfl⟩
theorem Grew.below {w w':World} {v v':Value} (h:Grew w v w' v') (B:Nat) (hB:B≤w.heap.size) (hv:∀ k,v.ownBlock=some k→B≤k):Below B w w' :=
 (Below.refl B w).grown h.grown hB hv
theorem Grew.cell {w w':World} {v v':Value} (h:Grew w v w' v') {a:Addr} {x:Value} (hc:w.cell? a=some x) (hne:v.ownBlock≠some a.block):w'.cell? a=some x :=
 h.grown.cell hc (Ne.symm hne)
section
variable {P:Program} (w:World)
theorem zik (base:Nat) (t tx ty e:TypeId) (i:TypeInfo) (z:Value) (size bytes:Nat) (ht:P.underlying t=some (.slice e)) (hi:P.info? e=some i) (hz:i.zero=some z)
  (hsize:i.size=size) (hby:i.bytes=bytes) (hzs:z.cells.size=size) (hsz:0<size)
  (v:Value) (n:Nat) (xs:List Value) (hown:w.ownsRow base e size v n xs)
  (x:Value) (m:Nat) (news:List Value) (hs:Src P size tx x m news w)
  (h63:n+m≤maxLen) (hbytes:(n+m)*bytes≤140737488355328) (hbase:base≤w.heap.size) :
  ∃ v' w',(Builtin.append_ #[t,tx] ty #[v,x]).run P w = .ok v' w'∧w'.ownsRow base e size v' (n+m) (xs++news)∧Grew w v w' v':=by
 subst hsize;subst hby
 have hsmall:n+m≤9223372036854775807:=by simp only[maxLen] at h63;omega
 have hl:=hs.newsLen;have hlen:(xs++news).length=(n+m)*i.size:=by rw[List.length_append,hown.1,hl,Nat.add_mul]
 have grown:∀ (old:Nat),old<n+m → ∀ (v:Value),
   (w.drew.alloc (.cells ((xs++news).toArray++Builtin.zeroCells z.cells (grownCap w (n+m) old e-(n+m))) e)).ownsRow base e i.size
    (.slice (some ⟨w.heap.size,0,none⟩) (n+m) (grownCap w (n+m) old e)) (n+m) (xs++news) ∧
   Grew w v (w.drew.alloc (.cells ((xs++news).toArray++Builtin.zeroCells z.cells (grownCap w (n+m) old e-(n+m))) e)) (.slice (some ⟨w.heap.size,0,none⟩) (n+m) (grownCap w (n+m) old e)):=by
  intro old ho v;have hge:=grownCap_ge w (n+m) old e;have hcm:grownCap w (n+m) old e≤maxLen:=grownCap_le_maxLen w (n+m) old e h63;refine⟨⟨hlen,.inr ⟨w.heap.size,_,_,rfl,hbase,heap_alloc_new w.drew _,hge,hcm,?_,?_⟩⟩,⟨⟨rfl,rfl,rfl,by simp,fun k hk _=>heap_alloc_old w.drew _ hk⟩,.inr ⟨_,rfl,Nat.le_refl _⟩⟩⟩
  ·simp only[Array.size_append,List.size_toArray,size_zeroCells,hzs,hlen,←Nat.add_mul];congr 1;omega
  ·simp only[Array.toList_append];rw[←hlen];exact List.take_left
 rcases hown.2 with ⟨rfl,rfl⟩ | ⟨g,cap,cur,rfl,hbg,hg,hnc,hcm,hcs,htake⟩
 ·have hx:xs=[]:=List.eq_nil_of_length_eq_zero (by simpa using hown.1);subst hx;by_cases hm:m=0
  ·subst hm;have hn:news=[]:=List.eq_nil_of_length_eq_zero (by simpa using hl);subst hn;refine⟨.slice none 0 0,w,?_,World.ownsRow_nil w base e i.size,Grew.refl _ _⟩;rcases hs.kind with ⟨e',hk⟩ | hk <;> simp[Builtin.append_,run_underlying ht,run_underlying hk,sizeOf,typeInfo,hi,hs.len,hs.cells]
  ·have hr:=run_append_grow_src (P:=P) w t tx ty e i z ht hi hz none 0 0 [] (by simp[Builtin.firstCells]) x m news hs (by omega) (by omega) (growslice_fits (by omega) (by simpa using hbytes));have hgr:=grown 0 (by omega) (.slice none 0 0);simp only[Nat.zero_add,List.nil_append] at hgr hr ⊢;exact⟨_,_,hr,hgr.1,hgr.2⟩
 ·by_cases hroom:n+m≤cap
  ·have hfit:n*i.size+0+news.length≤cur.size:=by rw[hl,hcs,Nat.add_zero,←Nat.add_mul];exact Nat.mul_le_mul_right _ hroom
   have hst:=run_storeCells_at P g (n*i.size) e news 0 cur w hg hfit hs.one;simp only[Nat.add_zero] at hst;have hr:(Builtin.append_ #[t,tx] ty #[.slice (some ⟨g,0,none⟩) n cap,x]).run P w =
     .ok (.slice (some ⟨g,0,none⟩) (n+m) cap) (w.setRow g (cur.toList.take (n*i.size)++news++cur.toList.drop (n*i.size+news.length)).toArray):=by
    rcases hs.kind with ⟨e',hk⟩ | hk <;> simp[Builtin.append_,run_underlying ht,run_underlying hk,sizeOf,typeInfo,hi,hs.len,hroom,hs.cells,Addr.add_lit,hst]
   refine⟨_,_,hr,⟨hlen,.inr ⟨g,cap,_,rfl,hbg,setRow_heap w g cur _ e _ hg,hroom,hcm,?_,?_⟩⟩,⟨⟨rfl,rfl,rfl,by simp,fun k _ hk=>setRow_other w g k _ (fun e=>hk (by simp[Value.ownBlock,e]))⟩,.inl rfl⟩⟩
   ·simp only[List.size_toArray,List.length_append,List.length_take,List.length_drop,Array.length_toList];omega
   ·rw[htake,←hlen];exact List.take_left
  ·have holds:∀ j u,xs[j]? = some u→w.drew.cell? ((⟨g,0,none⟩:Addr).add j)=some u:=fun j u h=>by
    have:=hown.cells (g:=g) rfl j u h
    simpa using this
   have hr:=run_append_grow_src (P:=P) w t tx ty e i z ht hi hz (some ⟨g,0,none⟩) n cap xs (run_firstCells_some w.drew i.size n ⟨g,0,none⟩ n cap xs hown.1 holds) x m news hs (by omega) (by omega) (growslice_fits (by omega) hbytes);have hgr:=grown cap (by omega) (.slice (some ⟨g,0,none⟩) n cap);exact⟨_,_,hr,hgr.1,hgr.2⟩
theorem zas {ops:Array Oper} {rest:List Oper} {o:Oper} {a:Act} {Q:Exit→Act→World→Prop} (hgd:o.guard=none) (s x:Operand) (t tx:TypeId)
  (ho:o.op = .call { callee:=.builtin .append,args:=#[s,x],argTypes:=#[t,tx] })
  (base:Nat) (e:TypeId) (i:TypeInfo) (z:Value) (size bytes:Nat) (ht:P.underlying t=some (.slice e)) (hi:P.info? e=some i) (hz:i.zero=some z)
  (hsize:i.size=size) (hby:i.bytes=bytes) (hzs:z.cells.size=size) (hsz:0<size)
  (v:Value) (n:Nat) (xs:List Value) (hs:a.eval s=v) (hown:w.ownsRow base e size v n xs)
  (y:Value) (m:Nat) (news:List Value) (hx:a.eval x=y) (hsrc:Src P size tx y m news w)
  (h63:n+m≤maxLen) (hbytes:(n+m)*bytes≤140737488355328) (hbase:base≤w.heap.size)
  (h:∀ v' w',w'.ownsRow base e size v' (n+m) (xs++news)→Grew w v w' v'→wpList P ops Q rest (a.put o.dst v') w'):wpList P ops Q (o::rest) a w:=by
 refine wpList_plain hgd fun K hK => ?_;obtain⟨v',w',hr,h2,h3⟩:=zik (P:=P) w base t tx o.type e i z size bytes ht hi hz hsize hby hzs hsz v n xs hown y m news hsrc h63 hbytes hbase;unfold Oper.wp execOp;simp only[ho,resolve,invoke,builtin,Sem.run_bind,Sem.run_pure,Result.andThen_ok,List.map_toArray,List.map_cons,List.map_nil,hs,hx,hr];exact hK _ _ (h v' w' h2 h3)
theorem zea {t e':TypeId} (e:TypeId) (ht:P.underlying t=some (.slice e')) (u:Value) (hu:u.oneCell'=true):Src P 1 t (.slice (some ⟨w.heap.size,0,none⟩) 1 1) 1 [u] (w.alloc (.cells #[u] e)) :=
 Src.ofSlice (w.alloc (.cells #[u] e)) ht ⟨w.heap.size,0,none⟩ 1 1 [u] rfl (fun j x hj=>by
  match j,hj with
  | 0,hj=>simp at hj;subst hj;simp[Addr.add]) (fun x hx=>by simp at hx;subst hx;exact hu)
theorem zzbdh {t e':TypeId} (e:TypeId) (ht:P.underlying t=some (.slice e')) (x y:ByteArray):Src P 2 t (.slice (some ⟨w.heap.size,0,none⟩) 1 1) 1 [.string x,.string y] (w.alloc (.cells #[.string x,.string y] e)) :=
 Src.ofSlice (w.alloc (.cells #[.string x,.string y] e)) ht ⟨w.heap.size,0,none⟩ 1 1 [.string x,.string y] rfl (fun j u hj=>by
  match j,hj with
  | 0,hj=>simp at hj;subst hj;simp[Addr.add]
  | 1,hj=>simp at hj;subst hj;simp[Addr.add]) (fun u hu=>by simp at hu;rcases hu with rfl | rfl <;> rfl)
theorem zcq {w:World} {base:Nat} {e:TypeId} {size n m:Nat} {v:Value} {xs ys:List Value} (h:w.ownsRow base e size v n xs) (hn:n=m) (hx:xs=ys):w.ownsRow base e size v m ys:=by subst hn;subst hx;exact h
end
open Go.RowKit
set_option maxRecDepth 100000
set_option maxHeartbeats 800000 in
theorem zqy (w:World):Calls Tryz.prog 126 #[] w fun e w' => ∃ v,e = .returned v∧IsPairs w' v tbl∧Ext w w':=by
 go_enter Tryz.func126,Tryz.ntmps126
 go_wp2
 go_ret
 refine⟨_,rfl,?_,(Ext.refl _).alloc _⟩;refine IsPairs.ofOwns (base:=w.heap.size) (e:=122) ⟨rfl,.inr ⟨w.heap.size,16,_,rfl,Nat.le_refl _,heap_alloc_new w _,by decide,by decide,rfl,rfl⟩⟩
theorem zhi (w:World) (a b:Value) (t:TypeId):(w.alloc (.cells #[a,b] t)).cell? ⟨w.heap.size,0,none⟩=some a:=by simp
theorem zhj (w:World) (a b:Value) (t:TypeId):(w.alloc (.cells #[a,b] t)).cell? ⟨w.heap.size,1,none⟩=some b:=by simp
set_option maxHeartbeats 800000 in
theorem zqa (s:ByteArray) (vt:Value) (l:List (List UInt8×List UInt8)) (w:World) (hl:l.length≤1000) (ht:IsPairs w vt l):Calls Tryz.prog 169 #[.string s,vt] w fun e w'=>e = .returned (.int .i64 (least (nameQ s.data.toList) l:Nat))∧Ext w w':=by
 obtain⟨a,cap,rfl,hc1,hc2,hcell⟩:=ht;have HC:=hide hcell;clear hcell
 go_enter Tryz.func169,Tryz.ntmps169
 go_wp2
 go_loopw [9] (fun i wr => ∃ k:Nat,k≤l.length∧i = .int .i64 k∧Ext w wr∧Hid (∀ j,j<k→nameQ s.data.toList (l.getD j ([],[]))=false)) (fun i _=>l.length-(intOf i).toNat)
 case atStart=>exact⟨0,Nat.zero_le _,rfl,Ext.refl _,fun j h=>by omega⟩
 case round =>
  obtain⟨k,hk,rfl,hext,HA⟩:=hrel;by_cases hlt:k<l.length
  ·obtain⟨b,o,rfl,hcc⟩:∃ b o,a=some ⟨b,o,none⟩ ∧ ∀ i,i<l.length→w.cell? ⟨b,o+i*2,none⟩=some (.string ⟨(l.getD i ([],[])).1.toArray⟩)∧w.cell? ⟨b,o+i*2+1,none⟩=some (.string ⟨(l.getD i ([],[])).2.toArray⟩):=by
    rcases HC.out with h | h
    ·rw[h] at hlt;simp at hlt
    ·exact h
   have hcA:=hext.cell (hcc k hlt).1;have hcB:=hext.cell (hcc k hlt).2;clear hcc;generalize hp:l.getD k ([],[])=p at hcA hcB;have HP:=hide hp;clear hp;by_cases hq:(p.1 == s.toList)=true
   ·go_wp2
    go_ret
    exact⟨zbm (by rw[zmd (nameQ s.data.toList) l k hlt HA.out (by rw[HP.out,nameQ,←ByteArray.toList_eq];exact hq)];omega),hext.alloc _⟩
   ·have hq':(p.1 == s.toList)=false:=by simpa using hq
    clear hq
    go_wp2
    go_roundw
    case rel =>
     refine⟨k+1,by omega,by go_num,hext.alloc _,fun j hj => ?_⟩;by_cases e:j=k
     ·subst e;rw[HP.out,nameQ,←ByteArray.toList_eq];exact hq'
     ·exact HA.out j (by omega)
    case measure=>simp[intOf];omega
  ·go_wp2
   go_ret
   exact⟨zbm (by rw[zod (nameQ s.data.toList) l (fun j hj=>HA.out j (by omega))];rfl),hext⟩
theorem zqz (a b:ByteArray) (p:List UInt8×List UInt8):wholeQ (a.data.toList,b.data.toList) p=((p.2 != []) && ((p.1 == a.toList) && (p.2 == b.toList))):=by
 rw[ByteArray.toList_eq,ByteArray.toList_eq];rfl
set_option maxHeartbeats 1600000 in
theorem zvu (x y:ByteArray) (vt:Value) (l:List (List UInt8×List UInt8)) (w:World) (hl:l.length≤1000) (ht:IsPairs w vt l):Calls Tryz.prog 167 #[.agg #[.string x,.string y],vt] w fun e w'=>e = .returned (.int .i64 (least (wholeQ (x.data.toList,y.data.toList)) l:Nat))∧Ext w w':=by
 obtain⟨a,cap,rfl,hc1,hc2,hcell⟩:=ht;have HC:=hide hcell;clear hcell;have hx0:=(zhi w (.string x) (.string y) 122);have hx1:=(zhj w (.string x) (.string y) 122);have hE:=(Ext.refl w).alloc (.cells #[.string x,.string y] 122)
 go_enter Tryz.func167,Tryz.ntmps167
 go_wp2
 generalize hW:w.alloc (.cells #[.string x,.string y] 122)=W at hx0 hx1 hE ⊢;clear hW
 go_loopw [9] (fun i wr => ∃ k:Nat,k≤l.length∧i = .int .i64 k∧Ext W wr∧Hid (∀ j,j<k→wholeQ (x.data.toList,y.data.toList) (l.getD j ([],[]))=false)) (fun i _=>l.length-(intOf i).toNat)
 case atStart=>exact⟨0,Nat.zero_le _,rfl,Ext.refl _,fun j h=>by omega⟩
 case round =>
  obtain⟨k,hk,rfl,hextW,HA⟩:=hrel;have hx0':=hextW.cell hx0;have hx1':=hextW.cell hx1;have hext:=hE.trans hextW;clear hx0 hx1;by_cases hlt:k<l.length
  ·obtain⟨b,o,rfl,hcc⟩:∃ b o,a=some ⟨b,o,none⟩ ∧ ∀ i,i<l.length→w.cell? ⟨b,o+i*2,none⟩=some (.string ⟨(l.getD i ([],[])).1.toArray⟩)∧w.cell? ⟨b,o+i*2+1,none⟩=some (.string ⟨(l.getD i ([],[])).2.toArray⟩):=by
    rcases HC.out with h | h
    ·rw[h] at hlt;simp at hlt
    ·exact h
   have hcA:=hext.cell (hcc k hlt).1;have hcB:=hext.cell (hcc k hlt).2;clear hcc;generalize hp:l.getD k ([],[])=p at hcA hcB;have HP:=hide hp;clear hp;have hz:w.heap.size<wr.heap.size:=zbt hx0'
   go_wp2
   all_goals first
    | (
     go_ret
     exact⟨zbm (by rw[zmd _ l k hlt HA.out (by rw[HP.out,zqz];simp_all)];omega),hext.alloc _⟩)
    | (
     go_roundw
     case rel =>
      refine⟨k+1,by omega,by go_num,hextW.alloc _,fun j hj => ?_⟩;by_cases e:j=k
      ·subst e;rw[HP.out,zqz];simp_all
      ·exact HA.out j (by omega)
     case measure=>simp[intOf];omega)
  ·go_wp2
   go_ret
   exact⟨zbm (by rw[zod _ l (fun j hj=>HA.out j (by omega))];rfl),hext⟩
open Go.RowKit
set_option maxRecDepth 100000
theorem Tryz.info5:(Tryz.prog.info? 5).map (fun i=>(i.zero,i.size,i.bytes))=some (some (.int .u8 0),1,1):=by kernel_rfl
theorem zxi (high n:Nat) (hh:high=128∨high=64) (hn:n<8):bits BinOp.or IntKind.u8 (high:Int) (n:Int)=((high+n:Nat):Int):=by
 rcases hh with rfl | rfl <;> (match n,hn with
  | 0,_=>decide
  | 1,_=>decide
  | 2,_=>decide
  | 3,_=>decide
  | 4,_=>decide
  | 5,_=>decide
  | 6,_=>decide
  | 7,_=>decide)
theorem zew (n:Nat) (h:n<256):Value.int .u8 ((UInt8.ofNat n).toNat:Int) = .int .u8 (n:Int):=by
 rw[UInt8.toNat_ofNat',Nat.mod_eq_of_lt (by omega)]
theorem zxj (high n:Nat) (hh:high=0) (hn:n<32):bits BinOp.or IntKind.u8 (high:Int) (n:Int)=((high+n:Nat):Int):=by
 subst hh
 have:∀ k:Fin 32,bits BinOp.or IntKind.u8 ((0:Nat):Int) ((k.val:Nat):Int)=((0+k.val:Nat):Int):=by decide
 exact this ⟨n,hn⟩
set_option maxHeartbeats 800000 in
theorem zly (high n:Nat) (v:Value) (l:List UInt8) (base:Nat) (w:World) (hh:high=128∨high=64) (hn:n<7) (hl:l.length≤100000) (hb:base≤w.heap.size) (hown:w.ownsRow base 5 1 v l.length (bcells l)) :
  Calls Tryz.prog 168 #[v,.int .u8 (high:Int),.int .i64 3,.int .i64 (n:Int)] w fun e w' => ∃ v',e = .returned v'∧w'.ownsRow base 5 1 v' (l++encN high 7 n).length (bcells (l++encN high 7 n))∧Grew w v w' v':=by
 obtain⟨i0,hi,hz0,hz1,hz2⟩:=info_parts Tryz.info5;have ho:=zxi high n hh (by omega);have HE:Hid (bcells (l++encN high 7 n)=bcells l++[.int .u8 ((high+n:Nat):Int)]∧(l++encN high 7 n).length=l.length+1):=by
  unfold encN;rw[if_pos hn];exact⟨by rw[zai];congr 1;show [Value.int .u8 _]=_;rw[zew _ (by omega)],by simp⟩
 clear hh;generalize hx:((high+n:Nat):Int)=x at ho HE;clear hx
 go_enter Tryz.func168,Tryz.ntmps168
 go_wp2_with (first
  | (go_at_call 194;refine(full3 _).mono ?_;rintro e w' ⟨rfl,rfl⟩)
  | (at_builtin;refine zas _ rfl _ _ 34 34 rfl base 5 i0 (.int .u8 0) 1 1 Tryz.underlying34 hi hz0 hz1 hz2 rfl (by decide) _ _ _ rfl (hown.alloc _) _ 1 [.int .u8 x] rfl (zea _ _ Tryz.underlying34 _ rfl) ?_ ?_ ?_ ?_))
 ·unfold maxLen;omega
 ·omega
 ·simp;omega
 ·intro v' w1 hown' hgrew
  go_wp2
  go_ret
  exact⟨v',rfl,zcq hown' HE.out.2.symm HE.out.1.symm,(Grew.alloc _ _ _).trans hgrew⟩
set_option maxHeartbeats 1600000 in
theorem zki (high n:Nat) (v:Value) (l:List UInt8) (base:Nat) (w:World) (hh:high=128∨high=64) (hn:7≤n) (hm:n≤100) (hl:l.length≤100000) (hb:base≤w.heap.size) (hown:w.ownsRow base 5 1 v l.length (bcells l)) :
  Calls Tryz.prog 168 #[v,.int .u8 (high:Int),.int .i64 3,.int .i64 (n:Int)] w fun e w' => ∃ v',e = .returned v'∧w'.ownsRow base 5 1 v' (l++encN high 7 n).length (bcells (l++encN high 7 n))∧Grew w v w' v':=by
 obtain⟨i0,hi,hz0,hz1,hz2⟩:=info_parts Tryz.info5;have ho:bits BinOp.or IntKind.u8 (high:Int) 7=((high+7:Nat):Int):=zxi high 7 hh (by omega);have HE:Hid (bcells (l++encN high 7 n)=bcells l++[.int .u8 ((high+7:Nat):Int),.int .u8 ((n:Int)-7)]∧(l++encN high 7 n).length=l.length+1+1):=by
  unfold encN;rw[if_neg (by omega)];refine⟨?_,by simp⟩;rw[zai];congr 1
  show [Value.int .u8 _,Value.int .u8 _]=_
  rw[zew _ (by omega),zew _ (by omega),Int.ofNat_sub hn];rfl
 clear hh;generalize hx:((high+7:Nat):Int)=x at ho HE;clear hx
 go_enter Tryz.func168,Tryz.ntmps168
 go_wp2_with (first
  | (go_at_call 194;refine(full3 _).mono ?_;rintro e w' ⟨rfl,rfl⟩)
  | (at_builtin;refine zas _ rfl (.tmp 20) (.tmp 26) 34 34 rfl base 5 i0 (.int .u8 0) 1 1 Tryz.underlying34 hi hz0 hz1 hz2 rfl (by decide) _ _ _ rfl (hown.alloc _) _ 1 [.int .u8 x] rfl (zea _ _ Tryz.underlying34 _ rfl) ?_ ?_ ?_ ?_))
 ·unfold maxLen;omega
 ·omega
 ·simp;omega
 ·intro v1 w1 hown1 hgrew1;have hz:base≤w1.heap.size:=by have:=hgrew1.grown.size;simp at this;omega
  go_wp2_with (go_at_call 194;refine(full3 _).mono ?_;rintro e w' ⟨rfl,rfl⟩)
  refine wp_loop_rounds 1 ?_;rw[rounds_succ]
  go_wp2_with (at_builtin;refine zas _ rfl (.tmp 43) (.tmp 46) 34 34 rfl base 5 i0 (.int .u8 0) 1 1 Tryz.underlying34 hi hz0 hz1 hz2 rfl (by decide) _ _ _ rfl (hown1.alloc _) _ 1 [.int .u8 ((n:Int)-7)] rfl (zea _ _ Tryz.underlying34 _ rfl) ?_ ?_ ?_ ?_)
  ·unfold maxLen;omega
  ·omega
  ·simp;omega
  ·intro v2 w2 hown2 hgrew2
   go_wp2
   go_ret
   exact⟨v2,rfl,zcq hown2 HE.out.2.symm HE.out.1.symm,(Grew.alloc _ _ _).trans (hgrew1.trans ((Grew.alloc _ _ _).trans hgrew2))⟩
theorem zfu (high n:Nat) (v:Value) (l:List UInt8) (base:Nat) (w:World) (hh:high=128∨high=64) (hm:n≤100) (hl:l.length≤100000) (hb:base≤w.heap.size) (hown:w.ownsRow base 5 1 v l.length (bcells l)) :
  Calls Tryz.prog 168 #[v,.int .u8 (high:Int),.int .i64 3,.int .i64 (n:Int)] w fun e w' => ∃ v',e = .returned v'∧w'.ownsRow base 5 1 v' (l++encN high 7 n).length (bcells (l++encN high 7 n))∧Grew w v w' v':=by
 by_cases hn:n<7
 ·exact zly high n v l base w hh hn hl hb hown
 ·exact zki high n v l base w hh (by omega) hm hl hb hown
set_option maxHeartbeats 800000 in
theorem zlz (high n:Nat) (v:Value) (l:List UInt8) (base:Nat) (w:World) (hh:high=0) (hn:n<31) (hl:l.length≤100000) (hb:base≤w.heap.size) (hown:w.ownsRow base 5 1 v l.length (bcells l)) :
  Calls Tryz.prog 168 #[v,.int .u8 (high:Int),.int .i64 5,.int .i64 (n:Int)] w fun e w' => ∃ v',e = .returned v'∧w'.ownsRow base 5 1 v' (l++encN high 31 n).length (bcells (l++encN high 31 n))∧Grew w v w' v':=by
 obtain⟨i0,hi,hz0,hz1,hz2⟩:=info_parts Tryz.info5;have ho:=zxj high n hh (by omega);have HE:Hid (bcells (l++encN high 31 n)=bcells l++[.int .u8 ((high+n:Nat):Int)]∧(l++encN high 31 n).length=l.length+1):=by
  unfold encN;rw[if_pos hn];exact⟨by rw[zai];congr 1;show [Value.int .u8 _]=_;rw[zew _ (by omega)],by simp⟩
 clear hh;generalize hx:((high+n:Nat):Int)=x at ho HE;clear hx
 go_enter Tryz.func168,Tryz.ntmps168
 go_wp2_with (first
  | (go_at_call 194;refine(full5 _).mono ?_;rintro e w' ⟨rfl,rfl⟩)
  | (at_builtin;refine zas _ rfl _ _ 34 34 rfl base 5 i0 (.int .u8 0) 1 1 Tryz.underlying34 hi hz0 hz1 hz2 rfl (by decide) _ _ _ rfl (hown.alloc _) _ 1 [.int .u8 x] rfl (zea _ _ Tryz.underlying34 _ rfl) ?_ ?_ ?_ ?_))
 ·unfold maxLen;omega
 ·omega
 ·simp;omega
 ·intro v' w1 hown' hgrew
  go_wp2
  go_ret
  exact⟨v',rfl,zcq hown' HE.out.2.symm HE.out.1.symm,(Grew.alloc _ _ _).trans hgrew⟩
set_option maxHeartbeats 1600000 in
theorem zkj (high n:Nat) (v:Value) (l:List UInt8) (base:Nat) (w:World) (hh:high=0) (hn:31≤n) (hm:n≤100) (hl:l.length≤100000) (hb:base≤w.heap.size) (hown:w.ownsRow base 5 1 v l.length (bcells l)) :
  Calls Tryz.prog 168 #[v,.int .u8 (high:Int),.int .i64 5,.int .i64 (n:Int)] w fun e w' => ∃ v',e = .returned v'∧w'.ownsRow base 5 1 v' (l++encN high 31 n).length (bcells (l++encN high 31 n))∧Grew w v w' v':=by
 obtain⟨i0,hi,hz0,hz1,hz2⟩:=info_parts Tryz.info5;have ho:bits BinOp.or IntKind.u8 (high:Int) 31=((high+31:Nat):Int):=zxj high 31 hh (by omega);have HE:Hid (bcells (l++encN high 31 n)=bcells l++[.int .u8 ((high+31:Nat):Int),.int .u8 ((n:Int)-31)]∧(l++encN high 31 n).length=l.length+1+1):=by
  unfold encN;rw[if_neg (by omega)];refine⟨?_,by simp⟩;rw[zai];congr 1
  show [Value.int .u8 _,Value.int .u8 _]=_
  rw[zew _ (by omega),zew _ (by omega),Int.ofNat_sub hn];rfl
 clear hh;generalize hx:((high+31:Nat):Int)=x at ho HE;clear hx
 go_enter Tryz.func168,Tryz.ntmps168
 go_wp2_with (first
  | (go_at_call 194;refine(full5 _).mono ?_;rintro e w' ⟨rfl,rfl⟩)
  | (at_builtin;refine zas _ rfl (.tmp 20) (.tmp 26) 34 34 rfl base 5 i0 (.int .u8 0) 1 1 Tryz.underlying34 hi hz0 hz1 hz2 rfl (by decide) _ _ _ rfl (hown.alloc _) _ 1 [.int .u8 x] rfl (zea _ _ Tryz.underlying34 _ rfl) ?_ ?_ ?_ ?_))
 ·unfold maxLen;omega
 ·omega
 ·simp;omega
 ·intro v1 w1 hown1 hgrew1;have hz:base≤w1.heap.size:=by have:=hgrew1.grown.size;simp at this;omega
  go_wp2_with (go_at_call 194;refine(full5 _).mono ?_;rintro e w' ⟨rfl,rfl⟩)
  refine wp_loop_rounds 1 ?_;rw[rounds_succ]
  go_wp2_with (at_builtin;refine zas _ rfl (.tmp 43) (.tmp 46) 34 34 rfl base 5 i0 (.int .u8 0) 1 1 Tryz.underlying34 hi hz0 hz1 hz2 rfl (by decide) _ _ _ rfl (hown1.alloc _) _ 1 [.int .u8 ((n:Int)-31)] rfl (zea _ _ Tryz.underlying34 _ rfl) ?_ ?_ ?_ ?_)
  ·unfold maxLen;omega
  ·omega
  ·simp;omega
  ·intro v2 w2 hown2 hgrew2
   go_wp2
   go_ret
   exact⟨v2,rfl,zcq hown2 HE.out.2.symm HE.out.1.symm,(Grew.alloc _ _ _).trans (hgrew1.trans ((Grew.alloc _ _ _).trans hgrew2))⟩
theorem zma (high n:Nat) (v:Value) (l:List UInt8) (base:Nat) (w:World) (hh:high=0) (hm:n≤100) (hl:l.length≤100000) (hb:base≤w.heap.size) (hown:w.ownsRow base 5 1 v l.length (bcells l)) :
  Calls Tryz.prog 168 #[v,.int .u8 (high:Int),.int .i64 5,.int .i64 (n:Int)] w fun e w' => ∃ v',e = .returned v'∧w'.ownsRow base 5 1 v' (l++encN high 31 n).length (bcells (l++encN high 31 n))∧Grew w v w' v':=by
 by_cases hn:n<31
 ·exact zlz high n v l base w hh hn hl hb hown
 ·exact zkj high n v l base w hh (by omega) hm hl hb hown
theorem zne (n:Nat) (v:Value) (l:List UInt8) (base:Nat) (w:World) (hm:n≤100) (hl:l.length≤100000) (hb:base≤w.heap.size) (hown:w.ownsRow base 5 1 v l.length (bcells l)) :
  Calls Tryz.prog 168 #[v,.int .u8 128,.int .i64 3,.int .i64 (n:Int)] w fun e w' => ∃ v',e = .returned v'∧w'.ownsRow base 5 1 v' (l++encN 128 7 n).length (bcells (l++encN 128 7 n))∧Grew w v w' v' :=
 zfu 128 n v l base w (.inl rfl) hm hl hb hown
theorem zog (n:Nat) (v:Value) (l:List UInt8) (base:Nat) (w:World) (hm:n≤100) (hl:l.length≤100000) (hb:base≤w.heap.size) (hown:w.ownsRow base 5 1 v l.length (bcells l)) :
  Calls Tryz.prog 168 #[v,.int .u8 64,.int .i64 3,.int .i64 (n:Int)] w fun e w' => ∃ v',e = .returned v'∧w'.ownsRow base 5 1 v' (l++encN 64 7 n).length (bcells (l++encN 64 7 n))∧Grew w v w' v' :=
 zfu 64 n v l base w (.inr rfl) hm hl hb hown
theorem zqb (n:Nat) (v:Value) (l:List UInt8) (base:Nat) (w:World) (hm:n≤100) (hl:l.length≤100000) (hb:base≤w.heap.size) (hown:w.ownsRow base 5 1 v l.length (bcells l)) :
  Calls Tryz.prog 168 #[v,.int .u8 0,.int .i64 5,.int .i64 (n:Int)] w fun e w' => ∃ v',e = .returned v'∧w'.ownsRow base 5 1 v' (l++encN 0 31 n).length (bcells (l++encN 0 31 n))∧Grew w v w' v' :=
 zma 0 n v l base w rfl hm hl hb hown
theorem zxk (high full n:Nat):(encN high full n).length≤2:=(zcc high full n).2
set_option maxHeartbeats 1600000 in
theorem zex (s:ByteArray) (v:Value) (l:List UInt8) (base:Nat) (w:World) (hs:s.size≤60) (hl:l.length≤90000) (hb:base≤w.heap.size) (hown:w.ownsRow base 5 1 v l.length (bcells l)) :
  Calls Tryz.prog 170 #[v,.string s] w fun e w' => ∃ v',e = .returned v'∧w'.ownsRow base 5 1 v' (l++encT s.data.toList).length (bcells (l++encT s.data.toList))∧Grew w v w' v':=by
 obtain⟨i0,hi,hz0,hz1,hz2⟩:=info_parts Tryz.info5;have HE:Hid (bcells (l++encT s.data.toList)=bcells (l++encN 0 31 s.size)++byteCells s∧(l++encT s.data.toList).length=(l++encN 0 31 s.size).length+s.size):=by
  have hsz:s.data.toList.length=s.size:=by simp
  unfold encT;rw[hsz,←List.append_assoc];exact⟨by rw[zai];rfl,by rw[List.length_append,hsz]⟩
 have hN:(l++encN 0 31 s.size).length≤90002:=by rw[List.length_append];have:=zxk 0 31 s.size;omega
 generalize hl1:l++encN 0 31 s.size=l1 at HE hN;have HL1:=hide hl1;clear hl1
 go_enter Tryz.func170,Tryz.ntmps170
 go_wp2_with fail
 refine(zqb s.size v l base w (by omega) (by omega) hb hown).mono ?_;rintro e w1 ⟨v1,rfl,hown1,hgrew1⟩;rw[HL1.out] at hown1;have hz:base≤w1.heap.size:=by have:=hgrew1.grown.size;omega
 go_wp2_with (at_builtin;refine zas _ rfl (.tmp 9) (.tmp 10) 34 9 rfl base 5 i0 (.int .u8 0) 1 1 Tryz.underlying34 hi hz0 hz1 hz2 rfl (by decide) _ _ _ rfl hown1 _ s.size (byteCells s) rfl (Src.ofString _ Tryz.underlying9 s) ?_ ?_ ?_ ?_)
 ·unfold maxLen;omega
 ·omega
 ·exact hz
 ·intro v2 w2 hown2 hgrew2
  go_wp2
  go_ret
  exact⟨v2,rfl,zcq hown2 HE.out.2.symm HE.out.1.symm,hgrew1.trans hgrew2⟩
end Go.Proofs.YtoijpogadkogcaaGreat
