package console

import (
	"strconv"
	"sync"

	"tandem/api"
)

// answer is what one play of a batch answers.
type answer struct {
	number int // of the play: answers come in any order
	text   string
}

// playAll plays on one image, by so many workers at the same time: a text for each play.
func playAll(image []byte, plays []string, workers int) []string {
	numbers := make(chan int)
	answers := make(chan answer, len(plays)) // with room for all: they are received when the workers have ended
	var working sync.WaitGroup
	working.Add(workers)
	for range workers {
		go func() {
			defer working.Done()
			for number := range numbers {
				answers <- answer{number, whole(Play(image, plays[number]))}
			}
		}()
	}
	for number := range plays {
		numbers <- number
	}
	close(numbers)
	working.Wait()
	texts := make([]string, len(plays))
	for range plays {
		a := <-answers
		texts[a.number] = a.text
	}
	return texts
}

// whole is what Play answers as one text: a fault is its last line.
func whole(text string, e api.Errno, line int) string {
	if e == api.OK {
		return text
	}
	return text + "fault " + strconv.Itoa(int(e)) + " at " + strconv.Itoa(line) + "\n"
}
